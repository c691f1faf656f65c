import Derived.Test.YtgjpchnkodnieaaGreatDoorMFit2
import Derived.RangeFuncWrites
import Derived.Test.YtgjpchnkodnieaaGreatDoorMFit0
import Derived.RangeFuncNested
import Derived.RangeFuncBound
import Derived.RangeFuncCalls
import Derived.RangeFuncLeaves
import Derived.Shelf.Abstract
import Derived.Shelf.RegionOpen
import Derived.WalkKit
import Derived.OwnWalkIn
import Derived.TacticsInMore
import Derived.LoopNIn
import Derived.LoopIn
import Derived.Maps.AppendAt
import Derived.Shelf.Sort.Plain
import Derived.Ground.NamesProg
import Derived.Test.YtgjpchnkodnieaaGreatDoorProg
import Derived.Shelf.Slices.In.SortNone
import Derived.Sort.OwnSortedInts
import Derived.Deep.DeepCutAuto
import Derived.Shelf.Slices.Reverse
import Derived.Test.YtgjpchnkodnieaaGreatDoorMFit1
import Derived.RangeFuncRecord
import Derived.Deep.RegionHeld
import Derived.Shelf.Spec.SlicesGrow
import Derived.Deep.WholeRow
import Derived.Lib.SliceRun
import Derived.BigQuiet
namespace Go.Proofs.YtgjpchnkodnieaaGreatDoor
open Go.RowKit

/-- A function that hands out N rounds, the k-th with the values ar k, as long as R holds of the world; it writes nothing. -/
def SeqWhen (m : Nat) (P : Program) (g : Nat) (lb : Array Value) (N : Nat) (ar : Nat → Array Value) (R : World → Prop) : Prop :=
  ∀ (l : Nat) (J : Nat → World → Prop) (W : World), (∀ k A, J k A → R A) →
    (∀ k W1, k < N → J k W1 → YieldAt Fence.wide (m - 1) P l (ar k) W1 fun e W' => e = .returned (.bool true) ∧ J (k + 1) W') →
    J 0 W → CallsIn Fence.wide m P g (#[.func (.yield l) #[] #[]] ++ lb) W fun e W' => (∃ v, e = .returned v) ∧ J N W'

/-- How a round's body is left: off its end; whatever holds no cells and lies at or beyond B lies as it lay. -/
def roundEndF (B : Nat) (I : World → Prop) (W : World) : Exit → Act → World → Prop
  | .normal, _, W' => KeepsFrom B W W' ∧ I W'
  | _, _, _ => False

/-- A range over such a function whose body never leaves it. -/
theorem range_when {P : Program} {m N : Nat} {g : Operand} {ps : Array Tmp} {assign body : Code} {Q : Exit → Act → World → Prop} {a : Act} {w : World} {R : World → Prop}
    {gf : Nat} {lb : Array Value} (hg : a.eval g = .func (.func gf) #[] lb) (eg : ∀ args w, (callFunc gf args).run P w = .ok (.enter gf args) w) {ar : Nat → Array Value} (hps : ∀ k, (ar k).size = ps.size)
    (hseq : SeqWhen (m - 1) P gf lb N ar R)
    (I : Nat → World → Prop) (hI : ∀ k A, I k A → R A) (hIp : ∀ k A l o o', I k A → w.heap.size ≤ l → A.heap[l]? = some o → o.isCells = false → I k (A.putObj l o')) (h0 : ∀ o o', I 0 ((w.alloc o).alloc o')) (a₁ : Nat → Act)
    (hassign : ∀ (l k : Nat) (W : World) (K : Act → World → Prop), K (a₁ k) W →
      assign.wpIn (Fence.wide.inRound l) (m - 1 - 1) P (Exit.then K (fun _ _ _ => False)) { tmps := (ps.zip (ar k)).foldl (fun t (p, v) => t.setIfInBounds p v) a.tmps, defers := [] } W)
    (hbody : ∀ (l k : Nat) (W : World), k < N → I k W → body.wpIn (Fence.wide.inRound l) (m - 1 - 1) P (roundEndF w.heap.size (I (k + 1)) W) (a₁ k) W)
    (hdone : ∀ (D : Nat) (W : World), w.heap.size ≤ D → I N W → W.heap[D]? = some (.deferred (some [])) → Q .normal { a with defers := { target := .collected D, args := #[] } :: a.defers } W) :
    (Code.rangeFunc g ps assign body).wpIn Fence.wide m P Q a w := by
  refine wpIn_rangeFunc ?_
  intro fn hfn
  obtain ⟨rec, hrec⟩ : ∃ rec : LoopState → Loop, rec = fun st => { state := st, pending := none, fn, tmps := a.tmps, params := ps, assign, body, defers := w.heap.size } := ⟨_, rfl⟩
  obtain ⟨W1, hW1⟩ : ∃ W1, (w.alloc (.deferred (some []))).alloc (.loop (rec .ready)) = W1 := ⟨_, rfl⟩
  have hL1 : W1.heap[w.heap.size + 1]? = some (.loop (rec .ready)) := by
    rw [← hW1]; have := World.alloc_heap_new (w.alloc (.deferred (some []))) (.loop (rec .ready)); rwa [World.size_alloc] at this
  have hK1 : W1.heap[w.heap.size]? = some (.deferred (some [])) := by rw [← hW1]; exact (Below.heap_alloc _ _ _ (by simp)).trans (World.alloc_heap_new w _)
  refine ⟨w.heap.size + 1, [{ target := .collected w.heap.size, args := #[] }], W1, { target := .fn (.func gf) lb, args := #[.func (.yield (w.heap.size + 1)) #[] #[]] }, W1, gf,
    #[.func (.yield (w.heap.size + 1)) #[] #[]] ++ lb, W1, ?_, ?_, ?_, ?_, ?_, ?_⟩
  · rw [← hW1, hrec]; exact run_enterLoop_outer _ _ _ _ _
  · simp only [resolve, hg]; simp [go_sem]
  · intro _ _; exact trivial
  · simp [invoke, go_sem, eg]
  · intro h; simp [Fence.wide] at h
  · refine (hseq (w.heap.size + 1) (fun k W => I k W ∧ W.heap[w.heap.size + 1]? = some (.loop (rec .ready)) ∧ W.heap[w.heap.size]? = some (.deferred (some []))) W1 (fun k A h => hI k A h.1) ?_ ⟨by rw [← hW1]; exact h0 _ _, hL1, hK1⟩).mono ?_
    · rintro k W hk ⟨hi, hl, hd⟩
      have hlt : w.heap.size + 1 < W.heap.size := (Array.getElem?_eq_some_iff.1 hl).1
      have hy := run_yield (P := P) (args := ar k) hl (by rw [hrec]; exact hps k)
      rw [hrec] at hy
      refine ⟨fn, _, assign, body, hy, roundIn_of_wpIn hfn (hassign _ k W _ ⟨_, run_beginRound hl (by rw [hrec]), ?_⟩)⟩
      refine wpIn_mono (hbody _ k _ hk (hIp _ _ _ _ _ hi (by omega) hl rfl)) ?_
      rintro e a3 W3 hp
      cases e with
      | normal =>
        obtain ⟨hkeep, hi3⟩ := hp
        have hl3 := hkeep.same _ _ (by omega) (World.putObj_heap_same (o := .loop { rec .ready with state := .busy }) hlt) rfl
        have hd3 := hkeep.same _ _ (Nat.le_refl _) ((World.putObj_heap_other (r := w.heap.size + 1) (by omega)).trans hd) rfl
        have hr := run_endRound (P := P) none hl3
        have hlt3 : w.heap.size + 1 < W3.heap.size := (Array.getElem?_eq_some_iff.1 hl3).1
        refine ⟨_, _, hr, rfl, hIp _ _ _ _ _ hi3 (by omega) hl3 rfl, ?_, (World.putObj_heap_other (by omega)).trans hd3⟩
        rw [World.putObj_heap_same hlt3, hrec]; rfl
      | ret => exact hp.elim
      | exit id => exact hp.elim
      | goto t => exact hp.elim
      | panic ch => exact hp.elim
      | outgrown => exact hp.elim
    · rintro e W2 ⟨⟨v, rfl⟩, hi, hl, hd⟩
      refine ⟨none, _, by have := run_endLoop (P := P) hl (by rw [hrec]; simp); rw [hrec] at this; exact this, hdone w.heap.size _ (Nat.le_refl _) (hIp _ _ _ _ _ hi (by omega) hl rfl) ((World.putObj_heap_other (by omega)).trans hd)⟩

end Go.Proofs.YtgjpchnkodnieaaGreatDoor

namespace Go.Proofs.YtgjpchnkodnieaaGreatDoor
open Go.RowKit

/-- A function that hands out N rounds, the k-th with the values ar k, as long as what lay in w0 lies as it lay; it writes nothing. -/
abbrev SeqReads (m : Nat) (P : Program) (g : Nat) (lb : Array Value) (N : Nat) (ar : Nat → Array Value) (w0 : World) : Prop := SeqWhen m P g lb N ar (Below w0.heap.size w0)

/-- How a round's body is left: off its end; whatever holds no cells lies as it lay. -/
def roundEndQ (I : World → Prop) (W : World) : Exit → Act → World → Prop
  | .normal, _, W' => KeepsOthers W W' ∧ I W'
  | _, _, _ => False

theorem roundEndQ_F {B : Nat} {I : World → Prop} {W : World} : ∀ (e : Exit) (a : Act) (W' : World), roundEndQ I W e a W' → roundEndF B I W e a W'
  | .normal, _, _, h => ⟨h.1.from B, h.2⟩
  | .ret, _, _, h => h
  | .exit _, _, _, h => h
  | .goto _, _, _, h => h
  | .panic _, _, _, h => h
  | .outgrown, _, _, h => h

/-- A range over such a function whose body never leaves it. -/
theorem range_reads {P : Program} {m N : Nat} {g : Operand} {ps : Array Tmp} {assign body : Code} {Q : Exit → Act → World → Prop} {a : Act} {w w0 : World}
    {gf : Nat} {lb : Array Value} (hg : a.eval g = .func (.func gf) #[] lb) (eg : ∀ args w, (callFunc gf args).run P w = .ok (.enter gf args) w) {ar : Nat → Array Value} (hps : ∀ k, (ar k).size = ps.size)
    (hseq : SeqReads (m - 1) P gf lb N ar w0)
    (I : Nat → World → Prop) (hI : ∀ k A, I k A → Below w0.heap.size w0 A) (hIp : ∀ k A l o o', I k A → w.heap.size ≤ l → A.heap[l]? = some o → o.isCells = false → I k (A.putObj l o')) (h0 : ∀ o o', I 0 ((w.alloc o).alloc o')) (a₁ : Nat → Act)
    (hassign : ∀ (l k : Nat) (W : World) (K : Act → World → Prop), K (a₁ k) W →
      assign.wpIn (Fence.wide.inRound l) (m - 1 - 1) P (Exit.then K (fun _ _ _ => False)) { tmps := (ps.zip (ar k)).foldl (fun t (p, v) => t.setIfInBounds p v) a.tmps, defers := [] } W)
    (hbody : ∀ (l k : Nat) (W : World), k < N → I k W → body.wpIn (Fence.wide.inRound l) (m - 1 - 1) P (roundEndQ (I (k + 1)) W) (a₁ k) W)
    (hdone : ∀ (D : Nat) (W : World), w.heap.size ≤ D → I N W → W.heap[D]? = some (.deferred (some [])) → Q .normal { a with defers := { target := .collected D, args := #[] } :: a.defers } W) :
    (Code.rangeFunc g ps assign body).wpIn Fence.wide m P Q a w := by
  exact range_when hg eg hps hseq I hI hIp h0 a₁ hassign (fun l k W hk hi => wpIn_mono (hbody l k W hk hi) roundEndQ_F) hdone

end Go.Proofs.YtgjpchnkodnieaaGreatDoor
namespace Go.Proofs.YtgjpchnkodnieaaGreatDoor
open Go.RowKit Go.Shelf

attribute [local go_sem] Oper.semAt_some

theorem Values_any (sa : Option Addr) (n cap : Nat) (w : World) : Calls Tryz.prog 147 #[.slice sa n cap] w fun e w' => e = .returned (.func (.func 226) #[] #[.pointer (some ⟨w.heap.size, 0, none⟩)]) ∧ w' = w.alloc (.cells #[.slice sa n cap] 23) := by
  go_enter Tryz.func147, Tryz.ntmps147
  go_wp2
  go_ret
  exact ⟨rfl, rfl⟩

set_option maxRecDepth 100000 in
set_option maxHeartbeats 2000000 in
theorem values1_seq (m Bn : Nat) (sa : Option Addr) (n cap : Nat) (zs : List Int) (w0 : World) (hBox : w0.cell? ⟨Bn, 0, none⟩ = some (.slice sa n cap)) (hBn : Bn < w0.heap.size) (hr : Row w0 sa n zs) :
    SeqReads m Tryz.prog 226 #[.pointer (some ⟨Bn, 0, none⟩)] n (fun k => #[.int .i64 (zs.getD k 0)]) w0 := by
  intro l J W hJ hY h0
  have hsm := hr.small
  have hbox := ((hJ _ _ h0).cell (p := ⟨Bn, 0, none⟩) hBn).trans hBox
  have HJ : Hid (∀ k A, J k A → Below w0.heap.size w0 A) := hJ
  have HY : Hid (∀ k W1, k < n → J k W1 → YieldAt Fence.wide (m - 1) Tryz.prog l #[.int .i64 (zs.getD k 0)] W1 fun e W' => e = .returned (.bool true) ∧ J (k + 1) W') := hY
  have H0 := hide h0
  have HR := hide hr
  clear hJ hY h0 hr hBox
  refine callsIn_of_wp Tryz.func226 rfl trivial ?_ rfl
  simp only [Tryz.ntmps226, List.size_toArray, List.length_cons, List.length_nil, Nat.reduceAdd, Nat.reduceSub, Array.replicate_succ, Array.replicate_zero, List.push_toArray, List.append_toArray, List.nil_append, List.cons_append]
  gi_wp2
  gi_loopw [7] (fun i wr => ∃ k : Nat, k ≤ n ∧ i = .int .i64 (k : Nat) ∧ Hid (J k wr)) (fun i _ => n - (intOf i).toNat)
  case atStart => exact ⟨0, Nat.zero_le _, rfl, H0⟩
  case round =>
    obtain ⟨k, hk, rfl, hj⟩ := hrel
    clear H0 hbox
    by_cases hlt : k < n
    · obtain ⟨b, off, rfl, hblt, hc⟩ := (HR.out.below (Nat.le_refl _) (HJ.out _ _ hj.out)).get hlt
      obtain ⟨fn, tmps, assign, body, hy, hRr⟩ := HY.out k wr hlt hj.out
      obtain ⟨x, hx⟩ : ∃ x, x = zs.getD k 0 := ⟨_, rfl⟩
      rw [← hx] at hc hy
      clear hx
      gi_wp2
      refine ⟨fun h => (by simp [Fence.wide] at h), hRr.mono ?_⟩
      rintro e W3 ⟨rfl, hJ3⟩
      have HJ3 := hide hJ3
      clear hRr hy hJ3 hc
      gi_wp2
      go_roundw
      case rel => exact ⟨k + 1, by omega, by go_num, HJ3⟩
      case measure => simp [intOf]; omega
    · have : k = n := by omega
      subst this
      gi_wp2
      go_end0
      exact ⟨⟨_, rfl⟩, hj.out⟩

/-- k elements have been collected in a slice whose box is pb. -/
def Coll (w0 : World) (pb : Nat) (zs : List Int) (k : Nat) (W : World) : Prop :=
  (∃ v, Boxed W pb 23 v ∧ W.ownsRow w0.heap.size 3 1 v k ((zs.take k).map (Value.int .i64)) ∧ (v = .slice none 0 0 ↔ k = 0)) ∧ Below w0.heap.size w0 W

theorem Coll.putObj {w0 : World} {pb : Nat} {zs : List Int} {k : Nat} {A : World} {l : Nat} {o : Obj} (h : Coll w0 pb zs k A) (hl : w0.heap.size ≤ l) (ho : A.heap[l]? = some o) (hc : o.isCells = false) (o' : Obj) : Coll w0 pb zs k (A.putObj l o') := by
  obtain ⟨⟨v, hb, hr, hn⟩, hbl⟩ := h
  refine ⟨⟨v, ?_, ?_, hn⟩, hbl.trans (below_putObj A hl o')⟩
  · have hne : pb ≠ l := fun e => by subst e; rw [show A.heap[pb]? = _ from hb] at ho; cases ho; cases hc
    exact (World.putObj_heap_other hne).trans hb
  · rcases hr with ⟨h1, h2⟩
    refine ⟨h1, ?_⟩
    rcases h2 with h | ⟨g, cap, cur, hv, hg, hgb, rest⟩
    · exact .inl h
    · have hne : g ≠ l := fun e => by subst e; rw [hgb] at ho; cases ho; cases hc
      exact .inr ⟨g, cap, cur, hv, hg, (World.putObj_heap_other hne).trans hgb, rest⟩

theorem Coll.alloc {w0 : World} {pb : Nat} {zs : List Int} {k : Nat} {A : World} (h : Coll w0 pb zs k A) (o : Obj) : Coll w0 pb zs k (A.alloc o) := by
  obtain ⟨⟨v, hb, hr, hn⟩, hbl⟩ := h
  exact ⟨⟨v, hb.alloc o, hr.alloc o, hn⟩, hbl.alloc hbl.size o⟩

theorem eg_vals : ∀ args w, (callFunc 226 args).run Tryz.prog w = .ok (.enter 226 args) w := enters_of Tryz.func226 (by kernel_rfl) rfl

set_option maxRecDepth 100000 in
set_option maxHeartbeats 2000000 in
theorem appendSeq_any (Bn : Nat) (sa : Option Addr) (n cap : Nat) (zs : List Int) (w : World) (hBox : w.cell? ⟨Bn, 0, none⟩ = some (.slice sa n cap)) (hBn : Bn < w.heap.size) (hr : Row w sa n zs) (hn : n ≤ 10000) :
    Calls Tryz.prog 272 #[.slice none 0 0, .func (.func 226) #[] #[.pointer (some ⟨Bn, 0, none⟩)]] w fun e w' => ∃ v, e = .returned v ∧ w'.ownsRow w.heap.size 3 1 v n (zs.map (Value.int .i64)) ∧ (v = .slice none 0 0 ↔ n = 0) ∧ Below w.heap.size w w' := by
  refine (callsIn_wide (n := 9)).1 ?_
  obtain ⟨i0, hi, hz0, hz1, hz2⟩ := info_parts info_int
  refine callsIn_of_wp_marks Tryz.func272 rfl trivial ?_ rfl
  simp only [Tryz.ntmps272, List.size_toArray, List.length_cons, List.length_nil, Nat.reduceAdd, Nat.reduceSub, Array.replicate_succ, Array.replicate_zero, List.push_toArray, List.append_toArray, List.nil_append, List.cons_append]
  gi_wp2
  have hlen := hr.len
  obtain ⟨W, hW⟩ : ∃ W, W = w.alloc (.cells #[.slice none 0 0] 23) := ⟨_, rfl⟩
  have h0 : Coll w w.heap.size zs 0 W := by
    rw [hW]
    exact ⟨⟨.slice none 0 0, Boxed.new w _ _, by simpa using World.ownsRow_nil _ _ _ _, by simp⟩, (Below.refl _ w).alloc (Nat.le_refl _) _⟩
  have hz : W.heap.size = w.heap.size + 1 := by rw [hW]; simp
  rw [← hW]
  refine range_reads (w0 := w) (gf := 226) (lb := #[.pointer (some ⟨Bn, 0, none⟩)]) rfl eg_vals (ar := fun k => #[.int .i64 (zs.getD k 0)]) (fun _ => rfl) (values1_seq _ Bn sa n cap zs w hBox hBn hr)
    (Coll w w.heap.size zs) (fun _ _ h => h.2) (fun k A l o o' h hl ho hc => h.putObj (by omega) ho hc o') (fun o o' => (h0.alloc o).alloc o')
    (fun k => { tmps := #[.slice none 0 0, .func (.func 226) #[] #[.pointer (some ⟨Bn, 0, none⟩)], .pointer (some ⟨w.heap.size, 0, none⟩), undef, .slice none 0 0, .int .i64 (zs.getD k 0), .func (.func 226) #[] #[.pointer (some ⟨Bn, 0, none⟩)], .int .i64 (zs.getD k 0), undef, undef, undef, undef, undef], defers := [] }) ?assign ?body ?done
  case assign =>
    intro l k A K hK
    gi_wp2
    exact hK
  case body =>
    rintro l k A hk ⟨⟨v, hv, hrow, hnil⟩, hB⟩
    obtain ⟨x, hx⟩ : ∃ x, x = zs.getD k 0 := ⟨_, rfl⟩
    have hts : (zs.take (k + 1)).map (Value.int .i64) = (zs.take k).map (Value.int .i64) ++ [.int .i64 x] := by rw [take_snoc zs k (by omega), ← hx]; simp
    have HTS := hide hts
    rw [← hx]
    have hc := hv.cell
    have hf := hv.frozen
    clear hx hts h0 hnil
    gi_wp2_with (gi_at_builtin; refine wpListIn_append_own _ rfl _ _ 23 rfl w.heap.size 3 i0 (.int .i64 0) 1 8 Tryz.underlying23 hi hz0 hz1 hz2 rfl (by decide) _ _ _ rfl (hrow.alloc _) ⟨A.heap.size, 0, none⟩ 1 1 [.int .i64 x] rfl rfl (cell_one_new _ _ _) (by simp [Value.oneCell']) (by unfold maxLen; omega) (by omega) (by have := hB.size; simp; omega) ?_; intro v' w1 hown' hgrow _; obtain ⟨g', cap', rfl⟩ := ownsRow_succ hown'; obtain ⟨hv1, hv2, hr2, hk2, hb2⟩ := hv.appended (by decide) hrow hB.size (Nat.le_refl _) hown' hgrow; have hc1 := hv1.cell; have hf1 := hv1.frozen)
    exact ⟨hk2, ⟨_, hv2, by rw [HTS.out]; exact hr2, by simp⟩, hB.trans hb2⟩
  case done =>
    rintro D A hD ⟨⟨v, hv, hrow, hnil⟩, hB⟩ hK
    have hc := hv.cell
    have hall : zs.take n = zs := List.take_of_length_le (by omega)
    have HALL := hide hall
    clear hall h0
    gi_wp2
    refine ⟨by simp, .inl ⟨_, _, rfl, run_takeDeferred hK, ?_⟩⟩
    refine ⟨_, results_tmp rfl _ _ _, v, rfl, ?_, hnil, hB.trans (below_putObj A (by omega) _)⟩
    have h := ownsRow_putObj hrow (.deferred none) hK rfl
    rw [HALL.out] at h
    exact h

end Go.Proofs.YtgjpchnkodnieaaGreatDoor
namespace Go.Proofs
open Go.Shelf
def Tryz.sortI_ren : Go.Shelf.Ren := ⟨fun | 189 => 225 | 125 => 274 | 257 => 273 | 128 => 321 | 129 => 322 | 294 => 312 | 295 => 313 | 296 => 314 | 297 => 315 | 298 => 316 | 299 => 317 | 216 => 318 | 300 => 319 | 301 => 320 | 328 => 328 | 329 => 329 | 330 => 330 | 331 => 331 | 332 => 332 | 215 => 311 | 343 => 335 | n => n, fun | 28 => 23 | 3 => 3 | 46 => 196 | 0 => 0 | 51 => 216 | 53 => 219 | 4 => 4 | 183 => 244 | 182 => 243 | 131 => 166 | 5 => 5 | 9 => 9 | 218 => 270 | 222 => 274 | 228 => 276 | 229 => 104 | n => n, fun | n => n⟩
theorem Tryz.sortI : Go.Proofs.Lays.n189 Tryz.prog Tryz.sortI_ren := {
  mixed := by kernel_rfl
  f125 := Tryz.func274.trans (congrArg some (by kernel_rfl))
  f128 := Tryz.func321.trans (congrArg some (by kernel_rfl))
  f129 := Tryz.func322.trans (congrArg some (by kernel_rfl))
  f189 := Tryz.func225.trans (congrArg some (by kernel_rfl))
  f215 := Tryz.func311.trans (congrArg some (by kernel_rfl))
  f216 := Tryz.func318.trans (congrArg some (by kernel_rfl))
  f257 := Tryz.func273.trans (congrArg some (by kernel_rfl))
  f294 := Tryz.func312.trans (congrArg some (by kernel_rfl))
  f295 := Tryz.func313.trans (congrArg some (by kernel_rfl))
  f296 := Tryz.func314.trans (congrArg some (by kernel_rfl))
  f297 := Tryz.func315.trans (congrArg some (by kernel_rfl))
  f298 := Tryz.func316.trans (congrArg some (by kernel_rfl))
  f299 := Tryz.func317.trans (congrArg some (by kernel_rfl))
  f300 := Tryz.func319.trans (congrArg some (by kernel_rfl))
  f301 := Tryz.func320.trans (congrArg some (by kernel_rfl))
  f328 := Tryz.func328.trans (congrArg some (by kernel_rfl))
  f329 := Tryz.func329.trans (congrArg some (by kernel_rfl))
  f330 := Tryz.func330.trans (congrArg some (by kernel_rfl))
  f331 := Tryz.func331.trans (congrArg some (by kernel_rfl))
  f332 := Tryz.func332.trans (congrArg some (by kernel_rfl))
  f343 := Tryz.func335.trans (congrArg some (by kernel_rfl))
  t0 := Tryz.underlying0
  a0 := Tryz.isAgg0
  z0 := Tryz.sizeOf0
  v0 := Tryz.zeroValue0
  t3 := Tryz.underlying3
  a3 := Tryz.isAgg3
  z3 := Tryz.sizeOf3
  v3 := Tryz.zeroValue3
  t4 := Tryz.underlying4
  a4 := Tryz.isAgg4
  z4 := Tryz.sizeOf4
  v4 := Tryz.zeroValue4
  t5 := Tryz.underlying5
  a5 := Tryz.isAgg5
  z5 := Tryz.sizeOf5
  v5 := Tryz.zeroValue5
  t9 := Tryz.underlying9
  a9 := Tryz.isAgg9
  z9 := Tryz.sizeOf9
  v9 := Tryz.zeroValue9
  t28 := Tryz.underlying23
  a28 := Tryz.isAgg23
  z28 := Tryz.sizeOf23
  v28 := Tryz.zeroValue23
  t46 := Tryz.underlying196
  a46 := Tryz.isAgg196
  z46 := Tryz.sizeOf196
  v46 := Tryz.zeroValue196
  t51 := Tryz.underlying216
  a51 := Tryz.isAgg216
  z51 := Tryz.sizeOf216
  v51 := Tryz.zeroValue216
  t53 := Tryz.underlying219
  a53 := Tryz.isAgg219
  z53 := Tryz.sizeOf219
  v53 := Tryz.zeroValue219
  t131 := Tryz.underlying166
  a131 := Tryz.isAgg166
  z131 := Tryz.sizeOf166
  v131 := Tryz.zeroValue166
  t182 := Tryz.underlying243
  a182 := Tryz.isAgg243
  z182 := Tryz.sizeOf243
  v182 := Tryz.zeroValue243
  t183 := Tryz.underlying244
  a183 := Tryz.isAgg244
  z183 := Tryz.sizeOf244
  v183 := Tryz.zeroValue244
  t218 := Tryz.underlying270
  a218 := Tryz.isAgg270
  z218 := Tryz.sizeOf270
  v218 := Tryz.zeroValue270
  t222 := Tryz.underlying274
  a222 := Tryz.isAgg274
  z222 := Tryz.sizeOf274
  v222 := Tryz.zeroValue274
  t228 := Tryz.underlying276
  a228 := Tryz.isAgg276
  z228 := Tryz.sizeOf276
  v228 := Tryz.zeroValue276
  t229 := Tryz.underlying104
  a229 := Tryz.isAgg104
  z229 := Tryz.sizeOf104
  v229 := Tryz.zeroValue104 }
end Go.Proofs
namespace Go.Proofs.YtgjpchnkodnieaaGreatDoor
open Go.RowKit Go.Shelf

theorem Sort_own (base n : Nat) (v : Value) (zs : List Int) (w : World) (hrow : w.ownsRow base 3 1 v n (zs.map (Value.int .i64))) (hnil : v = .slice none 0 0 ↔ n = 0) (hl : zs.length = n) (hn : n ≤ 10000) (hb : base ≤ w.heap.size) :
    Calls Tryz.prog 225 #[v] w fun e w' => e = .returned (.tuple #[]) ∧ w'.ownsRow base 3 1 v n ((sortedI zs).map (Value.int .i64)) ∧ Below base w w' := by
  by_cases h0 : n = 0
  · obtain rfl := hnil.2 h0
    subst h0
    have hz : zs = [] := List.length_eq_zero_iff.1 hl
    subst hz
    refine (Any.slices_Sort_int_none Tryz.sortI none 0 w).mono ?_
    rintro e w' ⟨rfl, rfl⟩
    exact ⟨rfl, by simpa [sortedI] using hrow, Below.refl _ _⟩
  · obtain ⟨h1, h2⟩ := hrow
    rcases h2 with ⟨h, _⟩ | ⟨g, cap, cur, rfl, hg, hgb, hc1, hc2, hc3, hc4⟩
    · exact absurd (hnil.1 h) h0
    · have hH := holds_of_blockI (ss := zs) hgb (by rw [hl]; simpa using hc4)
      have hgl : g < w.heap.size := (Array.getElem?_eq_some_iff.1 hgb).1
      subst hl
      refine (Any.slices_Sort_int Tryz.sortI g 0 cap zs w hH hgl (by omega)).mono ?_
      rintro e w' ⟨rfl, q, os, rfl⟩
      refine ⟨rfl, ownsRow_sortedI (sortedI_len zs) hg hgb hc1 hc2 hc3, ?_⟩
      exact (Below.refl base w).grown (grownBy_sortedI _) hb (fun k e => by cases e; exact hg)

set_option maxHeartbeats 1000000 in
theorem Collect_any (Bn : Nat) (sa : Option Addr) (n cap : Nat) (zs : List Int) (w : World) (hBox : w.cell? ⟨Bn, 0, none⟩ = some (.slice sa n cap)) (hBn : Bn < w.heap.size) (hr : Row w sa n zs) (hn : n ≤ 10000) :
    Calls Tryz.prog 224 #[.func (.func 226) #[] #[.pointer (some ⟨Bn, 0, none⟩)]] w fun e w' => ∃ v, e = .returned v ∧ w'.ownsRow w.heap.size 3 1 v n (zs.map (Value.int .i64)) ∧ (v = .slice none 0 0 ↔ n = 0) ∧ Below w.heap.size w w' := by
  have HC := hide (appendSeq_any Bn sa n cap zs w hBox hBn hr hn)
  clear hBox hBn hr
  go_enter Tryz.func224, Tryz.ntmps224
  go_wp2_with (go_at_call 272; refine HC.out.mono ?_; rintro e w1 ⟨v, rfl, hv1, hv2, hv3⟩)
  go_ret
  exact ⟨v, rfl, hv1, hv2, hv3⟩

set_option maxHeartbeats 1000000 in
theorem Sorted_any (Bn : Nat) (sa : Option Addr) (n cap : Nat) (zs : List Int) (w : World) (hBox : w.cell? ⟨Bn, 0, none⟩ = some (.slice sa n cap)) (hBn : Bn < w.heap.size) (hr : Row w sa n zs) (hn : n ≤ 10000) :
    Calls Tryz.prog 146 #[.func (.func 226) #[] #[.pointer (some ⟨Bn, 0, none⟩)]] w fun e w' => ∃ a cp, e = .returned (.slice a n cp) ∧ Row w' a n (sortedI zs) ∧ Below w.heap.size w w' := by
  have HC := hide (Collect_any Bn sa n cap zs w hBox hBn hr hn)
  have HL := hide hr.len
  clear hBox hBn hr
  go_enter Tryz.func146, Tryz.ntmps146
  go_wp2_with (first | (go_at_call 224; refine HC.out.mono ?_; rintro e w1 ⟨v, rfl, hv1, hv2, hv3⟩; have H1 := hide hv1; have H2 : Hid (v = .slice none 0 0 ↔ n = 0) := hv2; have H3 := hide hv3; clear hv1 hv2 hv3) | (go_at_call 225; refine (Sort_own w.heap.size n v zs _ H1.out H2.out HL.out hn H3.out.size).mono ?_; rintro e w2 ⟨rfl, ho, hb⟩; have HO := hide ho; have HB := hide hb; clear ho hb))
  go_ret
  obtain ⟨a, cp, rfl, ho⟩ := Own.of_owns HO.out (by omega)
  exact ⟨a, cp, rfl, ho.row, H3.out.trans (HB.out)⟩

set_option maxHeartbeats 1000000 in
theorem isOrder_any (sa : Option Addr) (n cap : Nat) (zs : List Int) (w : World) (hr : Row w sa n zs) (hn : n ≤ 10000) (r : Bool) (hres : Hid (inTurn (sortedI zs) n = r)) :
    Calls Tryz.prog 58 #[.slice sa n cap] w fun e w' => e = .returned (.bool r) ∧ Below w.heap.size w w' := by
  have HS : Hid (Calls Tryz.prog 146 #[.func (.func 226) #[] #[.pointer (some ⟨w.heap.size, 0, none⟩)]] (w.alloc (.cells #[.slice sa n cap] 23)) fun e w' => ∃ a cp, e = .returned (.slice a n cp) ∧ Row w' a n (sortedI zs) ∧ Below (w.alloc (.cells #[.slice sa n cap] 23)).heap.size (w.alloc (.cells #[.slice sa n cap] 23)) w') := Sorted_any w.heap.size sa n cap zs _ (Boxed.new w _ _).cell (by simp) (hr.alloc _) hn
  clear hr
  go_enter Tryz.func58, Tryz.ntmps58
  go_wp2_with (first | (go_at_call 147; refine (Values_any _ _ _ _).mono ?_; rintro e w1 ⟨rfl, hw1⟩; subst hw1) | (go_at_call 146; refine HS.out.mono ?_; rintro e w2 ⟨a, cp, rfl, hro, hbl⟩; have HR := hide hro; have HB : Hid (Below w.heap.size w w2) := ((Below.refl _ w).alloc (Nat.le_refl _) _).trans (hbl.mono (by simp)); clear hro hbl))
  clear HS
  obtain ⟨ys, hys⟩ : ∃ ys, ys = sortedI zs := ⟨_, rfl⟩
  rw [← hys] at hres HR
  clear hys
  go_loopw [9] (fun i wr => ∃ k : Nat, k ≤ n ∧ i = .int .i64 (k : Nat) ∧ wr = w2 ∧ Hid (inTurn ys k = true)) (fun i _ => n - (intOf i).toNat)
  case atStart => exact ⟨0, Nat.zero_le _, rfl, rfl, rfl⟩
  case round =>
    obtain ⟨k, hk, rfl, hw, hin⟩ := hrel
    subst hw
    by_cases hlt : k < n
    · obtain ⟨b, off, rfl, hblt, hc⟩ := HR.out.get hlt
      obtain ⟨x, hx⟩ : ∃ x, x = ys.getD k 0 := ⟨_, rfl⟩
      rw [← hx] at hc
      by_cases he : x = (k : Int) + 1
      · have HN : Hid (inTurn ys (k + 1) = true) := by simp only [inTurn, Bool.and_eq_true, decide_eq_true_eq]; exact ⟨hin.out, by rw [← hx]; exact he⟩
        subst he
        clear hx
        go_wp2_with fail
        go_roundw
        case rel => exact ⟨k + 1, by omega, by go_num, by first | rfl | trivial, HN⟩
        case measure => simp [intOf]; omega
      · obtain rfl : r = false := by rw [← hres.out]; exact inTurn_not hlt (by rw [← hx]; exact he)
        have hq : (x != (k : Int) + 1) = true := by simp [he]
        clear hx he
        go_wp2_with fail
        go_ret
        exact ⟨rfl, HB.out⟩
    · have : k = n := by omega
      subst this
      obtain rfl : r = true := by rw [← hres.out]; exact hin.out
      go_wp2_with fail
      go_ret
      exact ⟨rfl, HB.out⟩

end Go.Proofs.YtgjpchnkodnieaaGreatDoor
namespace Go.Proofs.YtgjpchnkodnieaaGreatDoor
open Go.RowKit

set_option maxRecDepth 20000 in
set_option maxHeartbeats 4000000 in
theorem inOrder_any (a b : Option Addr) (n c1 c2 : Nat) (l ps : List Int) (w : World) (h1 : Row w a n l) (h2 : Row w b n ps) (hn : n ≤ 5) (hord : orderOk ps n n = true) :
    Calls Tryz.prog 60 #[.slice a n c1, .slice b n c2] w fun e w' => ∃ g, e = .returned (.slice (some ⟨g, 0, none⟩) n n) ∧ w.heap.size ≤ g ∧ Blk w' g (turnN ps l n n) ∧ Below w.heap.size w w' := by
  have hl1 := hide h1.len
  have hl2 := hide h2.len
  have hmk := run_make_row' (P := Tryz.prog) 23 3 (.int .i64 0) 8 Tryz.underlying23 info_int rfl .i64 .i64 n (by omega) (by omega)
  obtain ⟨W, hW⟩ : ∃ W, w.alloc (.cells (madeCells #[.int .i64 0] n) 3) = W := ⟨_, rfl⟩
  obtain ⟨g, hg⟩ : ∃ g, w.heap.size = g := ⟨_, rfl⟩
  have HB : Hid (Below g w W) := by rw [← hW, ← hg]; exact (Below.refl _ _).alloc (Nat.le_refl _) _
  have HK0 : Hid (Blk W g (turnN ps l n 0)) := by rw [← hW]; exact Blk.made w n g hg.symm
  have HA : Hid (Row W a n l) := by rw [← hW]; exact h1.alloc _
  have HP : Hid (Row W b n ps) := by rw [← hW]; exact h2.alloc _
  have HA1 : Hid (∀ k, At a n k → k ≠ g) := fun k hk => by rw [← hg]; have := h1.hi hk; omega
  have HP1 : Hid (∀ k, At b n k → k ≠ g) := fun k hk => by rw [← hg]; have := h2.hi hk; omega
  have HWE := hide hW
  have HGE := hide hg
  have HO := hide hord
  clear h1 h2 hW hg hord
  go_enter Tryz.func60, Tryz.ntmps60
  go_upto_region 2 with fail
  rw [unhide HWE, unhide HGE]
  clear HWE hmk
  go_wp2_with fail
  go_loopw [13] (fun i wr => ∃ k : Nat, k ≤ n ∧ i = .int .i64 k ∧ Hid (Blk wr g (turnN ps l n k)) ∧ Hid (But (fun x => x = g) W wr)) (fun i _ => n - (intOf i).toNat)
  case atStart => exact ⟨0, Nat.zero_le _, rfl, HK0, hide (But.refl _ _)⟩
  case round =>
    obtain ⟨k, hk, rfl, hb, hbut⟩ := hrel
    by_cases hlt : k < n
    · obtain ⟨b1, o1, rfl, hb1, hc1⟩ := ((unhide hbut).row (unhide HA) (by rintro x rfl h; exact unhide HA1 _ h rfl)).get hlt
      obtain ⟨b2, o2, rfl, hb2, hc2⟩ := ((unhide hbut).row (unhide HP) (by rintro x rfl h; exact unhide HP1 _ h rfl)).get hlt
      have hso := order_step (unhide HO) hlt
      have hax := stepOk_lt hso
      have hrg := order_range (unhide HO) k hlt
      obtain ⟨x, hx⟩ : ∃ x, l.getD k 0 = x := ⟨_, rfl⟩
      obtain ⟨y, hy⟩ : ∃ y, ps.getD k 0 = y := ⟨_, rfl⟩
      obtain ⟨j, hj⟩ : ∃ j, axNo ps k = j := ⟨_, rfl⟩
      have hyj : y = (j : Int) + 1 := by rw [← hj]; unfold axNo; rw [hy]; rw [hy] at hrg; omega
      rw [hj] at hax
      rw [hx] at hc1
      rw [hy, hyj] at hc2
      have HN := hide ((unhide hb).set j x)
      have HE : Hid ((turnN ps l n k).set j x = turnN ps l n (k + 1)) := by show _ = (turnN ps l n k).set (axNo ps k) (l.getD k 0); rw [hj, hx]
      rw [unhide HE] at HN
      have hcj := (unhide hb).cell (i := j) (by rw [turnN_len]; exact hax)
      have hfj := (unhide hb).free j
      have hgl := (unhide hb).lt
      have hw1 : IntKind.i64.wrap ((j : Int) + 1 - 1) = (j : Int) := by rw [IntKind.wrap_i64]; omega
      have hji : (j : Int) < n := by omega
      have hj0 : (0 : Int) ≤ j := by omega
      have hjn : ((j : Int) + 1 - 1) = (j : Int) := by omega
      clear hx hy hj hyj hso hrg hax HE
      go_wp2_with fail
      go_roundw
      case rel => exact ⟨k + 1, by omega, by go_num, HN, hide ((unhide hbut).setCell (p := ⟨g, j, none⟩) rfl _)⟩
      case measure => (simp [intOf] <;> omega)
    · obtain rfl : k = n := by omega
      have KB := hide ((unhide HB).trans ((unhide hbut).below (B := g) (by have := (unhide HK0).lt; omega) (fun k hk => by omega)))
      go_wp2_with fail
      go_ret
      exact ⟨g, rfl, by rw [unhide HGE]; exact Nat.le_refl _, unhide hb, by rw [unhide HGE]; exact unhide KB⟩

end Go.Proofs.YtgjpchnkodnieaaGreatDoor
namespace Go.Proofs.YtgjpchnkodnieaaGreatDoor
open Go.RowKit

set_option maxRecDepth 20000 in
set_option maxHeartbeats 4000000 in
theorem listCode_bad1 (c d : Bool) (a1 a2 b1 b2 : Option Addr) (n1 n2 m1 m2 c1 c2 d1 d2 : Nat) (sh dt sh' dt' : List Int) (w : World) (h1 : Row w a1 n1 sh) (h2 : Row w a2 n2 dt) (k1 : Row w b1 m1 sh') (k2 : Row w b2 m2 dt') (hok : arrOk c sh dt = false) :
    Calls Tryz.prog 57 #[.agg #[.bool c, .slice a1 n1 c1, .slice a2 n2 c2], .agg #[.bool d, .slice b1 m1 d1, .slice b2 m2 d2]] w fun e w' => e = .returned (.int .i64 3) ∧ Below w.heap.size w w' := by
  obtain ⟨W0, hW0⟩ : ∃ W0, W0 = (w.alloc (.cells #[.bool c, .slice a1 n1 c1, .slice a2 n2 c2] 25)).alloc (.cells #[.bool d, .slice b1 m1 d1, .slice b2 m2 d2] 25) := ⟨_, rfl⟩
  have hz0 : W0.heap.size = w.heap.size + 2 := by rw [hW0]; simp
  have HB0 : Hid (Below w.heap.size w W0) := by rw [hW0]; exact ((Below.refl _ w).alloc (Nat.le_refl _) _).alloc (by simp) _
  have HX0 : Hid (Box W0 w.heap.size c (.slice a1 n1 c1) (.slice a2 n2 c2)) := by rw [hW0]; exact (Box.new w _ _ _).alloc _
  have HX1 : Hid (Box W0 (w.heap.size + 1) d (.slice b1 m1 d1) (.slice b2 m2 d2)) := by
    rw [hW0]
    show Box _ _ _ _ _
    have := Box.new (w.alloc (.cells #[.bool c, .slice a1 n1 c1, .slice a2 n2 c2] 25)) d (.slice b1 m1 d1) (.slice b2 m2 d2)
    simpa using this
  have H1 := hide (h1.below (Nat.le_refl _) HB0.out)
  have H2 := hide (h2.below (Nat.le_refl _) HB0.out)
  have K1 := hide (k1.below (Nat.le_refl _) HB0.out)
  have K2 := hide (k2.below (Nat.le_refl _) HB0.out)
  have hs1 := h1.small
  have HW0 := hide hW0
  have HR := hide hok
  clear h1 h2 k1 k2 hok hW0
  go_enter Tryz.func57, Tryz.ntmps57
  go_wp2_with (first | (go_at_call_of 51 (Value.slice a1 n1 c1); rw [← HW0.out]; refine (implArrayOk_eq _ _ _ _ _ _ _ sh dt _ H1.out H2.out _ HR).mono ?_; rintro e w1 ⟨rfl, hb1⟩; have HE1 := hide hb1; clear hb1; obtain ⟨x0, x1, x2, _, _, _⟩ := (HX0.out.below (Nat.le_refl _) HE1.out).all; obtain ⟨y0, y1, y2, _, _, _⟩ := (HX1.out.below (Nat.le_refl _) HE1.out).all; have hp1 : w.heap.size + 1 < w1.heap.size := (by have := HE1.out.size; omega)))
  go_ret
  exact ⟨rfl, HB0.out.trans (HE1.out.mono (by omega))⟩

set_option maxRecDepth 20000 in
set_option maxHeartbeats 4000000 in
theorem listCode_bad2 (c d : Bool) (a1 a2 b1 b2 : Option Addr) (n1 n2 m1 m2 c1 c2 d1 d2 : Nat) (sh dt sh' dt' : List Int) (w : World) (h1 : Row w a1 n1 sh) (h2 : Row w a2 n2 dt) (k1 : Row w b1 m1 sh') (k2 : Row w b2 m2 dt') (hok : arrOk c sh dt = true) (hok' : arrOk d sh' dt' = false) :
    Calls Tryz.prog 57 #[.agg #[.bool c, .slice a1 n1 c1, .slice a2 n2 c2], .agg #[.bool d, .slice b1 m1 d1, .slice b2 m2 d2]] w fun e w' => e = .returned (.int .i64 3) ∧ Below w.heap.size w w' := by
  obtain ⟨W0, hW0⟩ : ∃ W0, W0 = (w.alloc (.cells #[.bool c, .slice a1 n1 c1, .slice a2 n2 c2] 25)).alloc (.cells #[.bool d, .slice b1 m1 d1, .slice b2 m2 d2] 25) := ⟨_, rfl⟩
  have hz0 : W0.heap.size = w.heap.size + 2 := by rw [hW0]; simp
  have HB0 : Hid (Below w.heap.size w W0) := by rw [hW0]; exact ((Below.refl _ w).alloc (Nat.le_refl _) _).alloc (by simp) _
  have HX0 : Hid (Box W0 w.heap.size c (.slice a1 n1 c1) (.slice a2 n2 c2)) := by rw [hW0]; exact (Box.new w _ _ _).alloc _
  have HX1 : Hid (Box W0 (w.heap.size + 1) d (.slice b1 m1 d1) (.slice b2 m2 d2)) := by
    rw [hW0]
    show Box _ _ _ _ _
    have := Box.new (w.alloc (.cells #[.bool c, .slice a1 n1 c1, .slice a2 n2 c2] 25)) d (.slice b1 m1 d1) (.slice b2 m2 d2)
    simpa using this
  have H1 := hide (h1.below (Nat.le_refl _) HB0.out)
  have H2 := hide (h2.below (Nat.le_refl _) HB0.out)
  have K1 := hide (k1.below (Nat.le_refl _) HB0.out)
  have K2 := hide (k2.below (Nat.le_refl _) HB0.out)
  have hs1 := h1.small
  have HW0 := hide hW0
  have HR := hide hok
  have HR' := hide hok'
  clear hok'
  clear h1 h2 k1 k2 hok hW0
  go_enter Tryz.func57, Tryz.ntmps57
  go_wp2_with (first | (go_at_call_of 51 (Value.slice a1 n1 c1); rw [← HW0.out]; refine (implArrayOk_eq _ _ _ _ _ _ _ sh dt _ H1.out H2.out _ HR).mono ?_; rintro e w1 ⟨rfl, hb1⟩; have HE1 := hide hb1; clear hb1; obtain ⟨x0, x1, x2, _, _, _⟩ := (HX0.out.below (Nat.le_refl _) HE1.out).all; obtain ⟨y0, y1, y2, _, _, _⟩ := (HX1.out.below (Nat.le_refl _) HE1.out).all; have hp1 : w.heap.size + 1 < w1.heap.size := (by have := HE1.out.size; omega)) | (go_at_call 51; refine (implArrayOk_eq _ _ _ _ _ _ _ sh' dt' _ (K1.out.below (Nat.le_refl _) HE1.out) (K2.out.below (Nat.le_refl _) HE1.out) _ HR').mono ?_; rintro e w2 ⟨rfl, hb2⟩; have HE2 := hide (HE1.out.trans (hb2.mono HE1.out.size)); clear hb2 x0 x1 x2 y0 y1 y2; obtain ⟨x0, x1, x2, _, _, _⟩ := (HX0.out.below (Nat.le_refl _) HE2.out).all; have hp2 : w.heap.size + 1 < w2.heap.size := (by have := HE2.out.size; omega)))
  go_ret
  exact ⟨rfl, HB0.out.trans (HE2.out.mono (by omega))⟩

set_option maxRecDepth 20000 in
set_option maxHeartbeats 4000000 in
theorem listCode_long (c d : Bool) (a1 a2 b1 b2 : Option Addr) (n1 n2 m1 m2 c1 c2 d1 d2 : Nat) (sh dt sh' dt' : List Int) (w : World) (h1 : Row w a1 n1 sh) (h2 : Row w a2 n2 dt) (k1 : Row w b1 m1 sh') (k2 : Row w b2 m2 dt') (hok : arrOk c sh dt = true) (hok' : arrOk d sh' dt' = true) (hn : 1 < n1) :
    Calls Tryz.prog 57 #[.agg #[.bool c, .slice a1 n1 c1, .slice a2 n2 c2], .agg #[.bool d, .slice b1 m1 d1, .slice b2 m2 d2]] w fun e w' => e = .returned (.int .i64 4) ∧ Below w.heap.size w w' := by
  obtain ⟨W0, hW0⟩ : ∃ W0, W0 = (w.alloc (.cells #[.bool c, .slice a1 n1 c1, .slice a2 n2 c2] 25)).alloc (.cells #[.bool d, .slice b1 m1 d1, .slice b2 m2 d2] 25) := ⟨_, rfl⟩
  have hz0 : W0.heap.size = w.heap.size + 2 := by rw [hW0]; simp
  have HB0 : Hid (Below w.heap.size w W0) := by rw [hW0]; exact ((Below.refl _ w).alloc (Nat.le_refl _) _).alloc (by simp) _
  have HX0 : Hid (Box W0 w.heap.size c (.slice a1 n1 c1) (.slice a2 n2 c2)) := by rw [hW0]; exact (Box.new w _ _ _).alloc _
  have HX1 : Hid (Box W0 (w.heap.size + 1) d (.slice b1 m1 d1) (.slice b2 m2 d2)) := by
    rw [hW0]
    show Box _ _ _ _ _
    have := Box.new (w.alloc (.cells #[.bool c, .slice a1 n1 c1, .slice a2 n2 c2] 25)) d (.slice b1 m1 d1) (.slice b2 m2 d2)
    simpa using this
  have H1 := hide (h1.below (Nat.le_refl _) HB0.out)
  have H2 := hide (h2.below (Nat.le_refl _) HB0.out)
  have K1 := hide (k1.below (Nat.le_refl _) HB0.out)
  have K2 := hide (k2.below (Nat.le_refl _) HB0.out)
  have hs1 := h1.small
  have HW0 := hide hW0
  have HR := hide hok
  have HR' := hide hok'
  clear hok'
  clear h1 h2 k1 k2 hok hW0
  go_enter Tryz.func57, Tryz.ntmps57
  go_wp2_with (first | (go_at_call_of 51 (Value.slice a1 n1 c1); rw [← HW0.out]; refine (implArrayOk_eq _ _ _ _ _ _ _ sh dt _ H1.out H2.out _ HR).mono ?_; rintro e w1 ⟨rfl, hb1⟩; have HE1 := hide hb1; clear hb1; obtain ⟨x0, x1, x2, _, _, _⟩ := (HX0.out.below (Nat.le_refl _) HE1.out).all; obtain ⟨y0, y1, y2, _, _, _⟩ := (HX1.out.below (Nat.le_refl _) HE1.out).all; have hp1 : w.heap.size + 1 < w1.heap.size := (by have := HE1.out.size; omega)) | (go_at_call 51; refine (implArrayOk_eq _ _ _ _ _ _ _ sh' dt' _ (K1.out.below (Nat.le_refl _) HE1.out) (K2.out.below (Nat.le_refl _) HE1.out) _ HR').mono ?_; rintro e w2 ⟨rfl, hb2⟩; have HE2 := hide (HE1.out.trans (hb2.mono HE1.out.size)); clear hb2 x0 x1 x2 y0 y1 y2; obtain ⟨x0, x1, x2, _, _, _⟩ := (HX0.out.below (Nat.le_refl _) HE2.out).all; have hp2 : w.heap.size + 1 < w2.heap.size := (by have := HE2.out.size; omega)))
  go_ret
  exact ⟨rfl, HB0.out.trans (HE2.out.mono (by omega))⟩

set_option maxRecDepth 20000 in
set_option maxHeartbeats 4000000 in
theorem listCode_rest (c d : Bool) (a1 a2 b1 b2 : Option Addr) (n1 n2 m1 m2 c1 c2 d1 d2 : Nat) (sh dt sh' dt' : List Int) (w : World) (h1 : Row w a1 n1 sh) (h2 : Row w a2 n2 dt) (k1 : Row w b1 m1 sh') (k2 : Row w b2 m2 dt') (hok : arrOk c sh dt = true) (hok' : arrOk d sh' dt' = true) (hn : ¬ 1 < n1) :
    Calls Tryz.prog 57 #[.agg #[.bool c, .slice a1 n1 c1, .slice a2 n2 c2], .agg #[.bool d, .slice b1 m1 d1, .slice b2 m2 d2]] w fun e w' => e = .returned (.int .i64 (if c then 3 else 0)) ∧ Below w.heap.size w w' := by
  cases c with
  | false =>
    obtain ⟨W0, hW0⟩ : ∃ W0, W0 = (w.alloc (.cells #[.bool false, .slice a1 n1 c1, .slice a2 n2 c2] 25)).alloc (.cells #[.bool d, .slice b1 m1 d1, .slice b2 m2 d2] 25) := ⟨_, rfl⟩
    have hz0 : W0.heap.size = w.heap.size + 2 := by rw [hW0]; simp
    have HB0 : Hid (Below w.heap.size w W0) := by rw [hW0]; exact ((Below.refl _ w).alloc (Nat.le_refl _) _).alloc (by simp) _
    have HX0 : Hid (Box W0 w.heap.size false (.slice a1 n1 c1) (.slice a2 n2 c2)) := by rw [hW0]; exact (Box.new w _ _ _).alloc _
    have HX1 : Hid (Box W0 (w.heap.size + 1) d (.slice b1 m1 d1) (.slice b2 m2 d2)) := by
      rw [hW0]
      show Box _ _ _ _ _
      have := Box.new (w.alloc (.cells #[.bool false, .slice a1 n1 c1, .slice a2 n2 c2] 25)) d (.slice b1 m1 d1) (.slice b2 m2 d2)
      simpa using this
    have H1 := hide (h1.below (Nat.le_refl _) HB0.out)
    have H2 := hide (h2.below (Nat.le_refl _) HB0.out)
    have K1 := hide (k1.below (Nat.le_refl _) HB0.out)
    have K2 := hide (k2.below (Nat.le_refl _) HB0.out)
    have hs1 := h1.small
    have HW0 := hide hW0
    have HR := hide hok
    have HR' := hide hok'
    clear hok'
    clear h1 h2 k1 k2 hok hW0
    go_enter Tryz.func57, Tryz.ntmps57
    go_wp2_with (first | (go_at_call_of 51 (Value.slice a1 n1 c1); rw [← HW0.out]; refine (implArrayOk_eq _ _ _ _ _ _ _ sh dt _ H1.out H2.out _ HR).mono ?_; rintro e w1 ⟨rfl, hb1⟩; have HE1 := hide hb1; clear hb1; obtain ⟨x0, x1, x2, _, _, _⟩ := (HX0.out.below (Nat.le_refl _) HE1.out).all; obtain ⟨y0, y1, y2, _, _, _⟩ := (HX1.out.below (Nat.le_refl _) HE1.out).all; have hp1 : w.heap.size + 1 < w1.heap.size := (by have := HE1.out.size; omega)) | (go_at_call 51; refine (implArrayOk_eq _ _ _ _ _ _ _ sh' dt' _ (K1.out.below (Nat.le_refl _) HE1.out) (K2.out.below (Nat.le_refl _) HE1.out) _ HR').mono ?_; rintro e w2 ⟨rfl, hb2⟩; have HE2 := hide (HE1.out.trans (hb2.mono HE1.out.size)); clear hb2 x0 x1 x2 y0 y1 y2; obtain ⟨x0, x1, x2, _, _, _⟩ := (HX0.out.below (Nat.le_refl _) HE2.out).all; have hp2 : w.heap.size + 1 < w2.heap.size := (by have := HE2.out.size; omega)))
    go_ret
    exact ⟨rfl, HB0.out.trans (HE2.out.mono (by omega))⟩
  | true =>
    obtain ⟨W0, hW0⟩ : ∃ W0, W0 = (w.alloc (.cells #[.bool true, .slice a1 n1 c1, .slice a2 n2 c2] 25)).alloc (.cells #[.bool d, .slice b1 m1 d1, .slice b2 m2 d2] 25) := ⟨_, rfl⟩
    have hz0 : W0.heap.size = w.heap.size + 2 := by rw [hW0]; simp
    have HB0 : Hid (Below w.heap.size w W0) := by rw [hW0]; exact ((Below.refl _ w).alloc (Nat.le_refl _) _).alloc (by simp) _
    have HX0 : Hid (Box W0 w.heap.size true (.slice a1 n1 c1) (.slice a2 n2 c2)) := by rw [hW0]; exact (Box.new w _ _ _).alloc _
    have HX1 : Hid (Box W0 (w.heap.size + 1) d (.slice b1 m1 d1) (.slice b2 m2 d2)) := by
      rw [hW0]
      show Box _ _ _ _ _
      have := Box.new (w.alloc (.cells #[.bool true, .slice a1 n1 c1, .slice a2 n2 c2] 25)) d (.slice b1 m1 d1) (.slice b2 m2 d2)
      simpa using this
    have H1 := hide (h1.below (Nat.le_refl _) HB0.out)
    have H2 := hide (h2.below (Nat.le_refl _) HB0.out)
    have K1 := hide (k1.below (Nat.le_refl _) HB0.out)
    have K2 := hide (k2.below (Nat.le_refl _) HB0.out)
    have hs1 := h1.small
    have HW0 := hide hW0
    have HR := hide hok
    have HR' := hide hok'
    clear hok'
    clear h1 h2 k1 k2 hok hW0
    go_enter Tryz.func57, Tryz.ntmps57
    go_wp2_with (first | (go_at_call_of 51 (Value.slice a1 n1 c1); rw [← HW0.out]; refine (implArrayOk_eq _ _ _ _ _ _ _ sh dt _ H1.out H2.out _ HR).mono ?_; rintro e w1 ⟨rfl, hb1⟩; have HE1 := hide hb1; clear hb1; obtain ⟨x0, x1, x2, _, _, _⟩ := (HX0.out.below (Nat.le_refl _) HE1.out).all; obtain ⟨y0, y1, y2, _, _, _⟩ := (HX1.out.below (Nat.le_refl _) HE1.out).all; have hp1 : w.heap.size + 1 < w1.heap.size := (by have := HE1.out.size; omega)) | (go_at_call 51; refine (implArrayOk_eq _ _ _ _ _ _ _ sh' dt' _ (K1.out.below (Nat.le_refl _) HE1.out) (K2.out.below (Nat.le_refl _) HE1.out) _ HR').mono ?_; rintro e w2 ⟨rfl, hb2⟩; have HE2 := hide (HE1.out.trans (hb2.mono HE1.out.size)); clear hb2 x0 x1 x2 y0 y1 y2; obtain ⟨x0, x1, x2, _, _, _⟩ := (HX0.out.below (Nat.le_refl _) HE2.out).all; have hp2 : w.heap.size + 1 < w2.heap.size := (by have := HE2.out.size; omega)))
    go_ret
    exact ⟨rfl, HB0.out.trans (HE2.out.mono (by omega))⟩

/-- The code of what must be a list of numbers, beside an array. -/
def codeList (c d : Bool) (sh dt sh' dt' : List Int) : Int := if arrOk c sh dt = true ∧ arrOk d sh' dt' = true then listCode c sh.length else 3

theorem implListCode_any (c d : Bool) (a1 a2 b1 b2 : Option Addr) (n1 n2 m1 m2 c1 c2 d1 d2 : Nat) (sh dt sh' dt' : List Int) (w : World) (h1 : Row w a1 n1 sh) (h2 : Row w a2 n2 dt) (k1 : Row w b1 m1 sh') (k2 : Row w b2 m2 dt') (r : Int) (hr : Hid (codeList c d sh dt sh' dt' = r)) :
    Calls Tryz.prog 57 #[.agg #[.bool c, .slice a1 n1 c1, .slice a2 n2 c2], .agg #[.bool d, .slice b1 m1 d1, .slice b2 m2 d2]] w fun e w' => e = .returned (.int .i64 r) ∧ Below w.heap.size w w' := by
  have hr' := hr.out
  clear hr
  subst hr'
  unfold codeList
  cases hok : arrOk c sh dt with
  | false => rw [if_neg (by simp)]; exact listCode_bad1 c d a1 a2 b1 b2 n1 n2 m1 m2 c1 c2 d1 d2 sh dt sh' dt' w h1 h2 k1 k2 hok
  | true =>
    cases hok' : arrOk d sh' dt' with
    | false => rw [if_neg (by simp)]; exact listCode_bad2 c d a1 a2 b1 b2 n1 n2 m1 m2 c1 c2 d1 d2 sh dt sh' dt' w h1 h2 k1 k2 hok hok'
    | true =>
      rw [if_pos ⟨rfl, rfl⟩, h1.len]
      unfold listCode
      by_cases hn : 1 < n1
      · rw [if_pos hn]; exact listCode_long c d a1 a2 b1 b2 n1 n2 m1 m2 c1 c2 d1 d2 sh dt sh' dt' w h1 h2 k1 k2 hok hok' hn
      · rw [if_neg hn]; exact listCode_rest c d a1 a2 b1 b2 n1 n2 m1 m2 c1 c2 d1 d2 sh dt sh' dt' w h1 h2 k1 k2 hok hok' hn

end Go.Proofs.YtgjpchnkodnieaaGreatDoor
namespace Go.Proofs.YtgjpchnkodnieaaGreatDoor
open Go.RowKit Go.Shelf

theorem eg_trans : ∀ args w, (callFunc 61 args).run Tryz.prog w = .ok (.enter 61 args) w := enters_of Tryz.func61 (by kernel_rfl) rfl

set_option maxRecDepth 20000 in
set_option maxHeartbeats 2000000 in
theorem transClo (pk r cd : Nat) (c : Bool) (v : Value) (kd : Option Addr) (dt zs : List Int) (w : World) (hpk : Box w pk c v (.slice kd r cd)) (hr : Row w kd r dt) (ho : orderOk dt r r = true) (hz : zs.length = r) (h5 : r ≤ 5) :
    NumOk 61 #[.pointer (some ⟨pk, 0, none⟩)] (transF dt) zs r w := by
  intro D hD hDl k hk ib W hW hB
  obtain ⟨_, _, k2, _, _, _⟩ := (hpk.below (Nat.le_refl _) hW).all
  obtain ⟨bk, ok, rfl, _, ck⟩ := (hr.below (Nat.le_refl _) hW).get hk
  have hrg := order_range ho k hk
  have hlt := stepOk_lt (order_step ho hk)
  obtain ⟨j, hj⟩ : ∃ j, axNo dt k = j := ⟨_, rfl⟩
  have hdk : dt.getD k 0 = (j : Int) + 1 := by rw [← hj]; unfold axNo; omega
  rw [hj] at hlt
  rw [hdk] at ck
  have cd' := hB.cell (i := j) (by omega)
  obtain ⟨x, hx⟩ : ∃ x, D.getD j 0 = x := ⟨_, rfl⟩
  rw [hx] at cd'
  have HF : Hid (transF dt D k = x) := by show _ = _; unfold transF; rw [hj, hx]
  have hw1 : IntKind.i64.wrap ((j : Int) + 1 - 1) = (j : Int) := by rw [IntKind.wrap_i64]; omega
  rw [hz]
  clear hW hB hD hDl hpk hr ho hz hx hj hdk hrg
  go_enter Tryz.func61, Tryz.ntmps61
  go_wp2_with fail
  go_ret
  exact ⟨ret_int HF.out.symm, Below.refl _ _⟩

set_option maxRecDepth 20000 in
set_option maxHeartbeats 4000000 in
theorem implTranspose_code (c d : Bool) (a1 a2 b1 b2 : Option Addr) (n1 n2 m1 m2 c1 c2 d1 d2 : Nat) (sh dt sh' dt' : List Int) (w : World) (h1 : Row w a1 n1 sh) (h2 : Row w a2 n2 dt) (k1 : Row w b1 m1 sh') (k2 : Row w b2 m2 dt') (r : Int) (hrc : codeList c d sh dt sh' dt' = r) (hr : r ≠ 0) :
    Calls Tryz.prog 15 #[.agg #[.bool c, .slice a1 n1 c1, .slice a2 n2 c2], .agg #[.bool d, .slice b1 m1 d1, .slice b2 m2 d2]] w (GivesOwn w (noAns r)) := by
  have HRC := hide hrc
  have hs2 := h2.small
  have hs4 := k2.small
  have hs3 := k1.small
  have H1 := hide h1
  have H2 := hide h2
  have K1 := hide k1
  have K2 := hide k2
  have q : (r != 0) = true := by simp [hr]
  clear h1 h2 k1 k2 hrc hr
  go_enter Tryz.func15, Tryz.ntmps15
  go_wp2_with (first | (go_at_call 57; refine (implListCode_any c d a1 a2 b1 b2 n1 n2 m1 m2 c1 c2 d1 d2 sh dt sh' dt' _ ((((unhide H1).alloc _).alloc _).alloc _) ((((unhide H2).alloc _).alloc _).alloc _) ((((unhide K1).alloc _).alloc _).alloc _) ((((unhide K2).alloc _).alloc _).alloc _) _ HRC).mono ?_; rintro e w1 ⟨rfl, hb1⟩; obtain ⟨B0, B1, B2, hB1⟩ := boxes3 hb1; have HB0 := hide B0; have HB1 := hide B1; have HB2 := hide B2; have HB := hide hB1; obtain ⟨x0, x1, x2, x3, x4, x5, x6⟩ := B0.all; obtain ⟨y0, y1, y2, y3, y4, y5, y6⟩ := B1.all; obtain ⟨q0, q1, q2, q3, q4, q5, q6⟩ := B2.all; clear hb1 hB1 B0 B1 B2))
  refine bodyPost_ret (v := .tuple #[.agg #[.bool false, .slice none 0 0, .slice none 0 0], .int .i64 r]) (by simp [results, Tryz.results15, go_sem, q0, q1, q2]) rfl ?_
  exact gives_none ((((unhide HB).setCell (by simp <;> omega) _).setCell (by simp <;> omega) _).setCell (by simp <;> omega) _)

set_option maxRecDepth 20000 in
set_option maxHeartbeats 4000000 in
theorem implTranspose_len (c d : Bool) (a1 a2 b1 b2 : Option Addr) (n1 n2 m1 m2 c1 c2 d1 d2 : Nat) (sh dt sh' dt' : List Int) (w : World) (h1 : Row w a1 n1 sh) (h2 : Row w a2 n2 dt) (k1 : Row w b1 m1 sh') (k2 : Row w b2 m2 dt') (hrc : codeList c d sh dt sh' dt' = 0) (hn : n2 ≠ m1) :
    Calls Tryz.prog 15 #[.agg #[.bool c, .slice a1 n1 c1, .slice a2 n2 c2], .agg #[.bool d, .slice b1 m1 d1, .slice b2 m2 d2]] w (GivesOwn w (noAns 5)) := by
  have HRC := hide hrc
  have hs2 := h2.small
  have hs4 := k2.small
  have hs3 := k1.small
  have H1 := hide h1
  have H2 := hide h2
  have K1 := hide k1
  have K2 := hide k2
  have q : ((n2 : Int) != (m1 : Int)) = true := by simp; omega
  clear h1 h2 k1 k2 hrc
  go_enter Tryz.func15, Tryz.ntmps15
  go_wp2_with (first | (go_at_call 57; refine (implListCode_any c d a1 a2 b1 b2 n1 n2 m1 m2 c1 c2 d1 d2 sh dt sh' dt' _ ((((unhide H1).alloc _).alloc _).alloc _) ((((unhide H2).alloc _).alloc _).alloc _) ((((unhide K1).alloc _).alloc _).alloc _) ((((unhide K2).alloc _).alloc _).alloc _) _ HRC).mono ?_; rintro e w1 ⟨rfl, hb1⟩; obtain ⟨B0, B1, B2, hB1⟩ := boxes3 hb1; have HB0 := hide B0; have HB1 := hide B1; have HB2 := hide B2; have HB := hide hB1; obtain ⟨x0, x1, x2, x3, x4, x5, x6⟩ := B0.all; obtain ⟨y0, y1, y2, y3, y4, y5, y6⟩ := B1.all; obtain ⟨q0, q1, q2, q3, q4, q5, q6⟩ := B2.all; clear hb1 hB1 B0 B1 B2))
  refine bodyPost_ret (v := .tuple #[.agg #[.bool false, .slice none 0 0, .slice none 0 0], .int .i64 5]) (by simp [results, Tryz.results15, go_sem, q0, q1, q2]) rfl ?_
  exact gives_none ((((unhide HB).setCell (by simp <;> omega) _).setCell (by simp <;> omega) _).setCell (by simp <;> omega) _)

set_option maxRecDepth 20000 in
set_option maxHeartbeats 4000000 in
theorem implTranspose_dom (c d : Bool) (a1 a2 b1 b2 : Option Addr) (n1 m1 m2 c1 c2 d1 d2 : Nat) (sh dt sh' dt' : List Int) (w : World) (h1 : Row w a1 n1 sh) (h2 : Row w a2 m1 dt) (k1 : Row w b1 m1 sh') (k2 : Row w b2 m2 dt') (hrc : codeList c d sh dt sh' dt' = 0) (h5 : m1 ≤ 5) (ho : inTurn (sortedI dt) m1 = false) :
    Calls Tryz.prog 15 #[.agg #[.bool c, .slice a1 n1 c1, .slice a2 m1 c2], .agg #[.bool d, .slice b1 m1 d1, .slice b2 m2 d2]] w (GivesOwn w (noAns 3)) := by
  have HRC := hide hrc
  have HOR := hide ho
  have hs2 := h2.small
  have hs4 := k2.small
  have hs3 := k1.small
  have H1 := hide h1
  have H2 := hide h2
  have K1 := hide k1
  have K2 := hide k2
  clear h1 h2 k1 k2 hrc ho
  go_enter Tryz.func15, Tryz.ntmps15
  go_wp2_with (first | (go_at_call 57; refine (implListCode_any c d a1 a2 b1 b2 n1 m1 m1 m2 c1 c2 d1 d2 sh dt sh' dt' _ ((((unhide H1).alloc _).alloc _).alloc _) ((((unhide H2).alloc _).alloc _).alloc _) ((((unhide K1).alloc _).alloc _).alloc _) ((((unhide K2).alloc _).alloc _).alloc _) _ HRC).mono ?_; rintro e w1 ⟨rfl, hb1⟩; obtain ⟨B0, B1, B2, hB1⟩ := boxes3 hb1; have HB0 := hide B0; have HB1 := hide B1; have HB2 := hide B2; have HB := hide hB1; obtain ⟨x0, x1, x2, x3, x4, x5, x6⟩ := B0.all; obtain ⟨y0, y1, y2, y3, y4, y5, y6⟩ := B1.all; obtain ⟨q0, q1, q2, q3, q4, q5, q6⟩ := B2.all; clear hb1 hB1 B0 B1 B2) | (go_at_call 58; refine (isOrder_any _ _ _ dt _ ((unhide H2).below (Nat.le_refl _) (unhide HB)) (by omega) _ HOR).mono ?_; rintro e w2 ⟨rfl, hb2⟩; have HB0' := hide ((unhide HB0).below (Nat.le_refl _) hb2); have HB1' := hide ((unhide HB1).below (Nat.le_refl _) hb2); have HB2' := hide ((unhide HB2).below (Nat.le_refl _) hb2); have HC := hide ((unhide HB).trans (hb2.mono (by omega))); clear hb2 x0 x1 x2 x3 x4 x5 x6 y0 y1 y2 y3 y4 y5 y6 q0 q1 q2 q3 q4 q5 q6 HB0 HB1 HB2 HB; obtain ⟨x0, x1, x2, x3, x4, x5, x6⟩ := (unhide HB0').all; obtain ⟨y0, y1, y2, y3, y4, y5, y6⟩ := (unhide HB1').all; obtain ⟨q0, q1, q2, q3, q4, q5, q6⟩ := (unhide HB2').all))
  refine bodyPost_ret (v := .tuple #[.agg #[.bool false, .slice none 0 0, .slice none 0 0], .int .i64 3]) (by simp [results, Tryz.results15, go_sem, q0, q1, q2]) rfl ?_
  exact gives_none ((((unhide HC).setCell (by simp <;> omega) _).setCell (by simp <;> omega) _).setCell (by simp <;> omega) _)

set_option maxRecDepth 20000 in
set_option maxHeartbeats 4000000 in
theorem implTranspose_good (c d : Bool) (a1 a2 b1 b2 : Option Addr) (n1 m1 m2 c1 c2 d1 d2 : Nat) (sh dt sh' dt' : List Int) (w : World) (h1 : Row w a1 n1 sh) (h2 : Row w a2 m1 dt) (k1 : Row w b1 m1 sh') (k2 : Row w b2 m2 dt') (hrc : codeList c d sh dt sh' dt' = 0) (hok' : arrOk d sh' dt' = true) (ho : orderOk dt m1 m1 = true) :
    Calls Tryz.prog 15 #[.agg #[.bool c, .slice a1 n1 c1, .slice a2 m1 c2], .agg #[.bool d, .slice b1 m1 d1, .slice b2 m2 d2]] w (GivesOwn w ⟨d, turnN dt sh' m1 m1, vals (gatherAt d sh' dt' (transF dt) (turnN dt sh' m1 m1)) m2, 0⟩) := by
  obtain ⟨hin, hpr, h5⟩ := shapeIn_of hok'
  rw [k2.len] at hpr
  rw [k1.len] at h5
  have hpm := turn_perm (sh := sh') ho h2.len k1.len
  have HPZ : Hid (prodAll (turnN dt sh' m1 m1) = (m2 : Int)) := by rw [prodAll_perm hpm]; exact hpr
  have HIZ := hide (shapeIn_perm hpm.symm hin)
  have HIN := hide hin
  have HPR := hide hpr
  have HORD := hide ho
  have HRC := hide hrc
  have HOR : Hid (inTurn (sortedI dt) m1 = true) := by rw [← order_is h2.len]; exact hide ho
  have hs2 := h2.small
  have hs4 := k2.small
  have hs3 := k1.small
  have H1 := hide h1
  have H2 := hide h2
  have K1 := hide k1
  have K2 := hide k2
  clear h1 h2 k1 k2 hrc ho hin hpr hpm
  go_enter Tryz.func15, Tryz.ntmps15
  go_upto_region 8 with (first | (go_at_call 57; refine (implListCode_any c d a1 a2 b1 b2 n1 m1 m1 m2 c1 c2 d1 d2 sh dt sh' dt' _ ((((unhide H1).alloc _).alloc _).alloc _) ((((unhide H2).alloc _).alloc _).alloc _) ((((unhide K1).alloc _).alloc _).alloc _) ((((unhide K2).alloc _).alloc _).alloc _) _ HRC).mono ?_; rintro e w1 ⟨rfl, hb1⟩; obtain ⟨B0, B1, B2, hB1⟩ := boxes3 hb1; have HB0 := hide B0; have HB1 := hide B1; have HB2 := hide B2; have HB := hide hB1; obtain ⟨x0, x1, x2, x3, x4, x5, x6⟩ := B0.all; obtain ⟨y0, y1, y2, y3, y4, y5, y6⟩ := B1.all; obtain ⟨q0, q1, q2, q3, q4, q5, q6⟩ := B2.all; clear hb1 hB1 B0 B1 B2) | (go_at_call 58; refine (isOrder_any _ _ _ dt _ ((unhide H2).below (Nat.le_refl _) (unhide HB)) (by omega) _ HOR).mono ?_; rintro e w2 ⟨rfl, hb2⟩; have HB0' := hide ((unhide HB0).below (Nat.le_refl _) hb2); have HB1' := hide ((unhide HB1).below (Nat.le_refl _) hb2); have HB2' := hide ((unhide HB2).below (Nat.le_refl _) hb2); have HC := hide ((unhide HB).trans (hb2.mono (by omega))); clear hb2 x0 x1 x2 x3 x4 x5 x6 y0 y1 y2 y3 y4 y5 y6 q0 q1 q2 q3 q4 q5 q6 HB0 HB1 HB2 HB; obtain ⟨x0, x1, x2, x3, x4, x5, x6⟩ := (unhide HB0').all; obtain ⟨y0, y1, y2, y3, y4, y5, y6⟩ := (unhide HB1').all; obtain ⟨q0, q1, q2, q3, q4, q5, q6⟩ := (unhide HB2').all))
  obtain ⟨bx, hbx⟩ : ∃ bx, bx = w.heap.size + 1 + 1 := ⟨_, rfl⟩
  obtain ⟨wz, hwz⟩ : ∃ wz, wz = w2 := ⟨_, rfl⟩
  have hzb : bx < wz.heap.size := by rw [hbx, hwz]; exact q6
  have HZ0 : Hid (Box wz w.heap.size c (.slice a1 n1 c1) (.slice a2 m1 c2)) := by rw [hwz]; exact unhide HB0'
  have HZ1 : Hid (Box wz (w.heap.size + 1) d (.slice b1 m1 d1) (.slice b2 m2 d2)) := by rw [hwz]; exact unhide HB1'
  have HZ2 : Hid (Box wz bx false (.slice none 0 0) (.slice none 0 0)) := by rw [hwz, hbx]; exact unhide HB2'
  have HBZ : Hid (Below w.heap.size w wz) := by rw [hwz]; exact unhide HC
  have H2Z := hide ((unhide H2).below (Nat.le_refl _) (unhide HBZ))
  have K1Z := hide ((unhide K1).below (Nat.le_refl _) (unhide HBZ))
  have K2Z := hide ((unhide K2).below (Nat.le_refl _) (unhide HBZ))
  rw [← hwz, ← hbx]
  clear hwz HB0' HB1' HB2' HC x0 x1 x2 x3 x4 x5 x6 y0 y1 y2 y3 y4 y5 y6 q0 q1 q2 q3 q4 q5 q6 HRC HOR H1 H2 K1 K2
  obtain ⟨zz, hzz⟩ : ∃ zz, zz = turnN dt sh' m1 m1 := ⟨_, rfl⟩
  have HZL : Hid (zz.length = m1) := by rw [hzz]; exact turnN_len _ _ _ _
  rw [← hzz] at HPZ HIZ ⊢
  have HZZ := hide hzz
  clear hzz
  go_cut [5] (fun v wx => v = .int .i64 0 ∧ Res5 w d zz (vals (gatherAt d sh' dt' (transF dt) zz) m2) m1 m2 bx wx)
  case first =>
    have HKEEP : ∀ wx, But (fun k => k = bx) wz wx → wx.cell? ⟨w.heap.size + 1, 0, none⟩ = some (.bool d) ∧ wx.cell? ⟨w.heap.size + 1, 1, none⟩ = some (.slice b1 m1 d1) ∧ wx.cell? ⟨w.heap.size + 1, 2, none⟩ = some (.slice b2 m2 d2) ∧ wx.cell? ⟨w.heap.size, 2, none⟩ = some (.slice a2 m1 c2) := fun wx hwx => by
      obtain ⟨y0, y1, y2, _, _, _⟩ := (unhide HZ1).all
      exact ⟨(hwx.cellAt (by omega) (by omega)).trans y0, (hwx.cellAt (by omega) (by omega)).trans y1, (hwx.cellAt (by omega) (by omega)).trans y2, (hwx.cellAt (by omega) (by omega)).trans (unhide HZ0).all.2.2.1⟩
    obtain ⟨y0, y1, y2, y3⟩ := HKEEP _ (But.refl _ _)
    obtain ⟨r0, r1, r2, r3, r4, r5, r6⟩ := (unhide HZ2).all
    have hwb : w.heap.size + 1 < bx := by omega
    clear hbx
    go_region_held3 (fun wx => wx.cell? ⟨w.heap.size + 1, 0, none⟩ = some (.bool d) ∧ wx.cell? ⟨w.heap.size + 1, 1, none⟩ = some (.slice b1 m1 d1) ∧ wx.cell? ⟨w.heap.size + 1, 2, none⟩ = some (.slice b2 m2 d2) ∧ wx.cell? ⟨w.heap.size, 2, none⟩ = some (.slice a2 m1 c2)) (first | exact HKEEP _ (But.refl _ _).drew | exact HKEEP _ (But.of_below (unhide HKC)) | exact HKEEP _ (But.of_below (unhide HKG)) | exact HKEEP _ ((((But.of_below (S := fun k => k = bx) (unhide HKG)).setCell (p := ⟨bx, 0, none⟩) rfl _).setCell (p := ⟨bx, 1, none⟩) rfl _).setCell (p := ⟨bx, 2, none⟩) rfl _))
      (first
      | (go_at_call 60; refine (inOrder_any b1 a2 m1 d1 c2 sh' dt _ ((unhide K1Z).below (Nat.le_refl _) (Below.refl _ wz).drew) ((unhide H2Z).below (Nat.le_refl _) (Below.refl _ wz).drew) h5 (unhide HORD)).mono ?_; rintro e wC ⟨gs, rfl, hgs, hbs, hbC⟩; rw [← unhide HZZ] at hbs; have HKC : Hid (Below wz.heap.size wz wC) := (Below.refl _ wz).drew.trans hbC; have HGS := hide hbs; have HGL : Hid (wz.heap.size ≤ gs) := hgs; clear hgs hbs hbC r0 r1 r2 r3 r4 r5 r6 y0 y1 y2 y3; obtain ⟨y0, y1, y2, y3⟩ := HKEEP _ (But.of_below (unhide HKC)); obtain ⟨r0, r1, r2, r3, r4, r5, r6⟩ := ((unhide HZ2).below (Nat.le_refl _) (unhide HKC)).all)
      | (go_at_call 59; refine (gathered_any d b1 b2 (some ⟨gs, 0, none⟩) m1 m2 d1 d2 m1 m1 sh' dt' zz 61 _ eg_trans (transF dt) _ m2 ((unhide K1Z).below (Nat.le_refl _) (unhide HKC)) ((unhide K2Z).below (Nat.le_refl _) (unhide HKC)) ((unhide HGS).row (unhide HZL) (by omega)) (unhide HIN) (unhide HIZ) h5 (unhide HPZ) (unhide HPR) (transClo w.heap.size m1 c2 c _ a2 dt zz _ ((unhide HZ0).below (Nat.le_refl _) (unhide HKC)) ((unhide H2Z).below (Nat.le_refl _) (unhide HKC)) (unhide HORD) (unhide HZL) h5)).mono ?_; rintro e wG ⟨gd, rfl, hgd, hBG, hbG⟩; have HKG : Hid (Below wz.heap.size wz wG) := (unhide HKC).trans (hbG.mono (unhide HKC).size); have HBG := hide hBG; have HGD := hide hgd; have HGH := hide (unhide HGS).lt; have HOG := hide (((unhide HGS).below (Nat.le_refl _) hbG).own (B := wz.heap.size) (unhide HZL) (by omega) (unhide HGL)); clear hgd hBG hbG r0 r1 r2 r3 r4 r5 r6 y0 y1 y2 y3; obtain ⟨y0, y1, y2, y3⟩ := HKEEP _ (But.of_below (unhide HKG)); obtain ⟨r0, r1, r2, r3, r4, r5, r6⟩ := ((unhide HZ2).below (Nat.le_refl _) (unhide HKG)).all))
    all_goals go_wp2_with fail
    all_goals (go_meet; case rel => exact ⟨rfl, Res5.set ((unhide HZ2).below (Nat.le_refl _) (unhide HKG)) ((unhide HOG).mono (by have := (unhide HBZ).size; omega)) (by have := unhide HGD; have := (unhide HKC).size; have := (unhide HBZ).size; omega) (unhide HBG) (fun h => by have := at_eq h; have := unhide HGD; have := unhide HGH; omega) ((unhide HBZ).trans ((unhide HKG).mono (unhide HBZ).size)) (fun h => by have := at_eq h; have := unhide HGL; omega) (by have := unhide HGD; have := (unhide HKC).size; omega) (by omega)⟩)
  case rest =>
    obtain ⟨w3, hw3⟩ : ∃ x, x = wc := ⟨_, rfl⟩
    subst hw3
    obtain ⟨rfl, ash, csh, gd, hb, hO, hgd, hB, hne, hbl⟩ := hcut
    obtain ⟨q0, q1, q2, q3, q4, q5, q6⟩ := hb.all
    clear hb
    go_wp2_with fail
    refine bodyPost_ret (v := .tuple #[.agg #[.bool d, .slice ash m1 csh, .slice (some ⟨gd, 0, none⟩) m2 m2], .int .i64 0]) (by simp [results, Tryz.results15, go_sem, q0, q1, q2]) rfl ?_
    rw [← unhide HZZ]
    exact gives_res (by simp [vals]) (by omega) hO hgd hB hne hbl

theorem codeListT_bad1 {c d : Bool} {sh dt sh' dt' : List Int} (h : arrOk c sh dt = false) : codeList c d sh dt sh' dt' = 3 := by unfold codeList; rw [if_neg (by simp [h])]
theorem codeListT_bad2 {c d : Bool} {sh dt sh' dt' : List Int} (h : arrOk d sh' dt' = false) : codeList c d sh dt sh' dt' = 3 := by unfold codeList; rw [if_neg (by simp [h])]
theorem codeListT_ok {c d : Bool} {sh dt sh' dt' : List Int} (h : arrOk c sh dt = true) (h' : arrOk d sh' dt' = true) : codeList c d sh dt sh' dt' = listCode c sh.length := by unfold codeList; rw [if_pos ⟨h, h'⟩]

theorem implTranspose_any (c d : Bool) (a1 a2 b1 b2 : Option Addr) (n1 n2 m1 m2 c1 c2 d1 d2 : Nat) (sh dt sh' dt' : List Int) (w : World) (h1 : Row w a1 n1 sh) (h2 : Row w a2 n2 dt) (k1 : Row w b1 m1 sh') (k2 : Row w b2 m2 dt') :
    Calls Tryz.prog 15 #[.agg #[.bool c, .slice a1 n1 c1, .slice a2 n2 c2], .agg #[.bool d, .slice b1 m1 d1, .slice b2 m2 d2]] w (GivesOwn w (transpose c d sh dt sh' dt')) := by
  cases hok : arrOk c sh dt with
  | false => rw [transpose_bad1 hok]; exact implTranspose_code c d a1 a2 b1 b2 n1 n2 m1 m2 c1 c2 d1 d2 sh dt sh' dt' w h1 h2 k1 k2 3 (codeListT_bad1 hok) (by omega)
  | true =>
    cases hok' : arrOk d sh' dt' with
    | false => rw [transpose_bad2 hok']; exact implTranspose_code c d a1 a2 b1 b2 n1 n2 m1 m2 c1 c2 d1 d2 sh dt sh' dt' w h1 h2 k1 k2 3 (codeListT_bad2 hok') (by omega)
    | true =>
      have hcl := codeListT_ok hok hok'
      by_cases h0 : listCode c sh.length = 0
      · rw [h0] at hcl
        by_cases hn : n2 = m1
        · subst hn
          have hl : dt.length = sh'.length := by rw [h2.len, k1.len]
          have h5 : n2 ≤ 5 := by rw [← k1.len]; exact (shapeIn_of hok').2.2
          cases ho : orderOk dt sh'.length sh'.length with
          | false =>
            rw [transpose_dom hok hok' h0 hl ho]
            exact implTranspose_dom c d a1 a2 b1 b2 n1 n2 m2 c1 c2 d1 d2 sh dt sh' dt' w h1 h2 k1 k2 hcl h5 (by rw [← order_is h2.len, ← k1.len]; exact ho)
          | true =>
            rw [transpose_go hok hok' h0 hl ho, ← trans_vals hok' ho, k1.len, k2.len]
            exact implTranspose_good c d a1 a2 b1 b2 n1 n2 m2 c1 c2 d1 d2 sh dt sh' dt' w h1 h2 k1 k2 hcl hok' (by rw [← k1.len]; exact ho)
        · rw [transpose_len hok hok' h0 (by rw [h2.len, k1.len]; exact hn)]
          exact implTranspose_len c d a1 a2 b1 b2 n1 n2 m1 m2 c1 c2 d1 d2 sh dt sh' dt' w h1 h2 k1 k2 hcl hn
      · rw [transpose_list hok hok' _ rfl h0]
        exact implTranspose_code c d a1 a2 b1 b2 n1 n2 m1 m2 c1 c2 d1 d2 sh dt sh' dt' w h1 h2 k1 k2 _ hcl h0

end Go.Proofs.YtgjpchnkodnieaaGreatDoor
namespace Go.Proofs
open Go.Shelf
def Tryz.revI_ren : Go.Shelf.Ren := ⟨fun | 112 => 221 | n => n, fun | 28 => 23 | 3 => 3 | 4 => 4 | 0 => 0 | n => n, fun | n => n⟩
theorem Tryz.revI : Go.Proofs.Lays.n112 Tryz.prog Tryz.revI_ren := {
  mixed := by kernel_rfl
  f112 := Tryz.func221.trans (congrArg some (by kernel_rfl))
  t0 := Tryz.underlying0
  a0 := Tryz.isAgg0
  z0 := Tryz.sizeOf0
  v0 := Tryz.zeroValue0
  t3 := Tryz.underlying3
  a3 := Tryz.isAgg3
  z3 := Tryz.sizeOf3
  v3 := Tryz.zeroValue3
  t4 := Tryz.underlying4
  a4 := Tryz.isAgg4
  z4 := Tryz.sizeOf4
  v4 := Tryz.zeroValue4
  t28 := Tryz.underlying23
  a28 := Tryz.isAgg23
  z28 := Tryz.sizeOf23
  v28 := Tryz.zeroValue23 }
end Go.Proofs
namespace Go.Proofs.YtgjpchnkodnieaaGreatDoor
open Go.RowKit

/-- A list of the call's own, made since W, that grows by appends. -/
structure Ch (W V : World) (g cap n : Nat) (zs : List Int) : Prop where
  own : V.ownsRow W.heap.size 3 1 (.slice (some ⟨g, 0, none⟩) n cap) n (zs.map (Value.int .i64))
  low : Below W.heap.size W V

section
variable {W V : World} {g cap n : Nat} {zs : List Int}
theorem Ch.start (hB : Below W.heap.size W V) (hg : g = V.heap.size) : Ch W (V.alloc (.cells #[] 3)) g 0 0 [] := by
  subst hg
  exact ⟨owns_mono (owns_empty V) hB.size, hB.alloc hB.size _⟩
theorem Ch.alloc (h : Ch W V g cap n zs) (o : Obj) : Ch W (V.alloc o) g cap n zs := ⟨owns_below h.own (Nat.le_refl _) ((Below.refl _ _).alloc (Nat.le_refl _) _), h.low.alloc h.low.size _⟩
theorem Ch.drew (h : Ch W V g cap n zs) : Ch W V.drew g cap n zs := ⟨owns_below h.own (Nat.le_refl _) (Below.refl _ _).drew, h.low.drew⟩
theorem Ch.row (h : Ch W V g cap n zs) (hs : n ≤ 17592186044416) : Row V (some ⟨g, 0, none⟩) n zs := by
  obtain ⟨a, c, e, ho⟩ := Own.of_owns h.own hs
  cases e
  exact ho.row

theorem step_append_ch {P : Program} (hP : P = Tryz.prog) {ops : Array Oper} {o : Oper} {a : Act} {K : Act → World → Prop} {Q : Exit → Act → World → Prop} {E : Prop} (hgd : o.guard = none) (s x : Operand)
    (ho : o.op = .call { callee := .builtin .append, args := #[s, x], argTypes := #[23, 23] })
    (hC : Ch W V g cap n zs) (hs : a.eval s = .slice (some ⟨g, 0, none⟩) n cap) (ad : Addr) (m c : Nat) (ys : List Int) (hr : Row W (some ad) m ys) (hx : a.eval x = .slice (some ad) m c) (N : Nat) (hN : n + m = N) (hb : N ≤ 20000)
    (h : ∀ g' cap' V', Ch W V' g' cap' N (zs ++ ys) → (∀ p c v1 v2, Box V p c v1 v2 → Box V' p c v1 v2) → K (a.put o.dst (.slice (some ⟨g', 0, none⟩) N cap')) V') :
    if Region.wanted o (yielded ops a.tmps) = true then Oper.wp P o a V K Q else E := by
  subst hP hN
  obtain ⟨i0, hi, hz0, hz1, hz2⟩ := info_parts info_int
  have hl := hr.len
  have hr' := hr.below (Nat.le_refl _) hC.low
  refine step_append_some _ hgd s x 23 ho W.heap.size 3 i0 (.int .i64 0) 1 8 Tryz.underlying23 hi hz0 hz1 hz2 rfl (by decide) g n cap (zs.map (Value.int .i64)) hs hC.own ad m c (ys.map (Value.int .i64)) hx (by simpa using hl) (cells_ints hr') (one_ints ys) (by unfold maxLen; omega) (by omega) hC.low.size ?_
  intro g' cap' V' hown hgrow _
  have hge : W.heap.size ≤ g := by
    rcases hC.own.2 with ⟨e, _⟩ | ⟨g', c', cur, e, hg, _⟩
    · cases e
    · cases e; exact hg
  exact h g' cap' V' ⟨by rw [List.map_append]; exact hown, hC.low.grown hgrow hC.low.size (by intro k hk; cases hk; exact hge)⟩ (fun p c v1 v2 hbx => hbx.grown0 hC.own hgrow)
end

end Go.Proofs.YtgjpchnkodnieaaGreatDoor
namespace Go.Proofs.YtgjpchnkodnieaaGreatDoor
open Go.RowKit

theorem wpList_append_some {P : Program} {w : World} {ops : Array Oper} {rest : List Oper} {o : Oper} {a : Act} {Q : Exit → Act → World → Prop} (hgd : o.guard = none) (s x : Operand) (t : TypeId)
    (ho : o.op = .call { callee := .builtin .append, args := #[s, x], argTypes := #[t, t] })
    (base : Nat) (e : TypeId) (i : TypeInfo) (z : Value) (size bytes : Nat) (ht : P.underlying t = some (.slice e)) (hi : P.info? e = some i) (hz : i.zero = some z)
    (hsize : i.size = size) (hby : i.bytes = bytes) (hzs : z.cells.size = size) (hsz : 0 < size)
    (g0 n cap0 : Nat) (xs : List Value) (hs : a.eval s = .slice (some ⟨g0, 0, none⟩) n cap0) (hown : w.ownsRow base e size (.slice (some ⟨g0, 0, none⟩) n cap0) n xs)
    (ad : Addr) (m c : Nat) (news : List Value) (hx : a.eval x = .slice (some ad) m c) (hl : news.length = m * size) (hnews : ∀ j u, news[j]? = some u → w.cell? (ad.add j) = some u) (h1 : ∀ u ∈ news, u.oneCell' = true)
    (h63 : n + m ≤ maxLen) (hbytes : (n + m) * bytes ≤ 140737488355328) (hbase : base ≤ w.heap.size)
    (h : ∀ g cap w', w'.ownsRow base e size (.slice (some ⟨g, 0, none⟩) (n + m) cap) (n + m) (xs ++ news) → w.grownBy w' (some g0) → (g = g0 ∨ g = w.heap.size) → wpList P ops Q rest (a.put o.dst (.slice (some ⟨g, 0, none⟩) (n + m) cap)) w') : wpList P ops Q (o :: rest) a w :=
  wpList_plain hgd fun _ hK => wp_append_some w s x t ho base e i z size bytes ht hi hz hsize hby hzs hsz g0 n cap0 xs hs hown ad m c news hx hl hnews h1 h63 hbytes hbase fun g cap w' h2 h3 h4 => hK _ _ (h g cap w' h2 h3 h4)

end Go.Proofs.YtgjpchnkodnieaaGreatDoor
namespace Go.Proofs.YtgjpchnkodnieaaGreatDoor
open Go.RowKit

theorem wpList_append_ch {W V : World} {g cap n : Nat} {zs : List Int} {ops : Array Oper} {rest : List Oper} {o : Oper} {a : Act} {Q : Exit → Act → World → Prop} (hgd : o.guard = none) (s x : Operand)
    (ho : o.op = .call { callee := .builtin .append, args := #[s, x], argTypes := #[23, 23] })
    (hC : Ch W V g cap n zs) (hs : a.eval s = .slice (some ⟨g, 0, none⟩) n cap) (ad : Addr) (m c : Nat) (ys : List Int) (hr : Row V (some ad) m ys) (hx : a.eval x = .slice (some ad) m c) (N : Nat) (hN : n + m = N) (hb : N ≤ 20000)
    (h : ∀ g' cap' V', Ch W V' g' cap' N (zs ++ ys) → (∀ p c v1 v2, Box V p c v1 v2 → Box V' p c v1 v2) → wpList Tryz.prog ops Q rest (a.put o.dst (.slice (some ⟨g', 0, none⟩) N cap')) V') :
    wpList Tryz.prog ops Q (o :: rest) a V := by
  subst hN
  obtain ⟨i0, hi, hz0, hz1, hz2⟩ := info_parts info_int
  have hl := hr.len
  refine wpList_append_some hgd s x 23 ho W.heap.size 3 i0 (.int .i64 0) 1 8 Tryz.underlying23 hi hz0 hz1 hz2 rfl (by decide) g n cap (zs.map (Value.int .i64)) hs hC.own ad m c (ys.map (Value.int .i64)) hx (by simpa using hl) (cells_ints hr) (one_ints ys) (by unfold maxLen; omega) (by omega) hC.low.size ?_
  intro g' cap' V' hown hgrow _
  have hge : W.heap.size ≤ g := by
    rcases hC.own.2 with ⟨e, _⟩ | ⟨g', c', cur, e, hg, _⟩
    · cases e
    · cases e; exact hg
  exact h g' cap' V' ⟨by rw [List.map_append]; exact hown, hC.low.grown hgrow hC.low.size (by intro k hk; cases hk; exact hge)⟩ (fun p c v1 v2 hbx => hbx.grown0 hC.own hgrow)

/-- A new block of one number. -/
theorem row_one (V : World) (x : Int) : Row (V.alloc (.cells #[.int .i64 x] 3)) (some ⟨V.heap.size, 0, none⟩) 1 [x] :=
  Blk.row (show Blk _ V.heap.size [x] from World.alloc_heap_new V _) rfl (by omega)

end Go.Proofs.YtgjpchnkodnieaaGreatDoor
namespace Go.Proofs.YtgjpchnkodnieaaGreatDoor
open Go.RowKit

set_option maxHeartbeats 2000000 in
theorem l6Vector_any (ad : Addr) (n c : Nat) (zs : List Int) (w : World) (h : Row w (some ad) n zs) :
    Calls Tryz.prog 69 #[.slice (some ad) n c] w fun e w' => ∃ g1 g2 d2, e = .returned (.agg #[.bool false, .slice (some ⟨g1, 0, none⟩) 1 1, .slice (some ⟨g2, 0, none⟩) n d2]) ∧ Row w' (some ⟨g1, 0, none⟩) 1 [(n : Int)] ∧ Row w' (some ⟨g2, 0, none⟩) n zs ∧ Below w.heap.size w w' := by
  have hl := h.len
  have hs := h.small
  obtain ⟨W, hW⟩ : ∃ W, W = (w.alloc (.cells #[.bool false, .slice none 0 0, .slice none 0 0] 25)).alloc (.cells #[.int .i64 (n : Nat)] 3) := ⟨_, rfl⟩
  have hBW : Below w.heap.size w W := by rw [hW]; exact ((Below.refl _ w).alloc (Nat.le_refl _) _).alloc (by simp) _
  have HX : Hid (Box W w.heap.size false (.slice none 0 0) (.slice none 0 0)) := by rw [hW]; exact (Box.new w _ _ _).alloc _
  have HR1 : Hid (Row W (some ⟨w.heap.size + 1, 0, none⟩) 1 [(n : Int)]) := by
    rw [hW]
    have := row_one (w.alloc (.cells #[.bool false, .slice none 0 0, .slice none 0 0] 25)) (n : Int)
    rwa [World.size_alloc] at this
  have hcall := l3Ints_some ad n c zs W (h.below (Nat.le_refl _) hBW)
  have HBW := hide hBW
  rw [hW] at hcall
  clear h hBW
  go_enter Tryz.func69, Tryz.ntmps69
  go_wp2_with (go_at_call 71; refine hcall.mono ?_; rintro e w1 ⟨g2, d2, rfl, ho, hb1⟩; rw [← hW] at ho hb1; have HR2 := hide ho.row; have HX1 := hide ((unhide HX).below (Nat.le_refl _) hb1); have HR1' := hide ((unhide HR1).below (Nat.le_refl _) hb1); have HB1 := hide ((unhide HBW).trans (hb1.mono (unhide HBW).size)); obtain ⟨y0, y1, y2, y3, y4, y5, y6⟩ := (unhide HX1).all; clear ho hb1)
  have hx := (unhide HX1).sets (c' := false) (u1 := .slice (some ⟨w.heap.size + 1, 0, none⟩) 1 1) (u2 := .slice (some ⟨g2, 0, none⟩) n d2)
  obtain ⟨r0, r1, r2, _, _, _⟩ := hx.all
  refine bodyPost_ret (v := .agg #[.bool false, .slice (some ⟨w.heap.size + 1, 0, none⟩) 1 1, .slice (some ⟨g2, 0, none⟩) n d2]) (by simp [results, Tryz.results69, go_sem, r0, r1, r2]) rfl ?_
  exact ⟨_, _, _, rfl, (unhide HR1').sets (unhide HX1) _ _ _, (unhide HR2).sets (unhide HX1) _ _ _, (((unhide HB1).setCell (p := ⟨w.heap.size, 0, none⟩) (Nat.le_refl _) _).setCell (p := ⟨w.heap.size, 1, none⟩) (Nat.le_refl _) _).setCell (p := ⟨w.heap.size, 2, none⟩) (Nat.le_refl _) _⟩

/-- k numbers from n down. -/
theorem down_take (n k : Nat) (h : k < n) : (downTo n).take k ++ [((n - k : Nat) : Int)] = (downTo n).take (k + 1) := by
  rw [List.take_add_one]
  congr 1
  unfold downTo
  rw [List.getElem?_map, List.getElem?_range h]
  rfl

set_option maxHeartbeats 4000000 in
theorem l6Backward_any (n : Nat) (hn : n ≤ 10000) (w : World) :
    Calls Tryz.prog 73 #[.int .i64 (n : Nat)] w fun e w' => ∃ g1 g2 d2, e = .returned (.agg #[.bool false, .slice (some ⟨g1, 0, none⟩) 1 1, .slice (some ⟨g2, 0, none⟩) n d2]) ∧ Row w' (some ⟨g1, 0, none⟩) 1 [(n : Int)] ∧ Row w' (some ⟨g2, 0, none⟩) n (downTo n) ∧ Below w.heap.size w w' := by
  obtain ⟨W, hW⟩ : ∃ W, W = w.alloc (.cells #[.bool false, .slice none 0 0, .slice none 0 0] 25) := ⟨_, rfl⟩
  have hz : W.heap.size = w.heap.size + 1 := by rw [hW]; simp
  have HX : Hid (Box W w.heap.size false (.slice none 0 0) (.slice none 0 0)) := by rw [hW]; exact Box.new w _ _ _
  have HBW : Hid (Below w.heap.size w W) := by rw [hW]; exact (Below.refl _ w).alloc (Nat.le_refl _) _
  have HC : Hid (Ch W (W.alloc (.cells #[] 3)) (w.heap.size + 1) 0 0 []) := Ch.start (Below.refl _ _) hz.symm
  clear hz
  rw [hW] at HC
  go_enter Tryz.func73, Tryz.ntmps73
  go_wp2_with fail
  rw [← hW] at HC ⊢
  clear hW
  go_loopw [3, 4] (fun v i wr => ∃ (k g cap : Nat) (y : Int), k ≤ n ∧ v = .slice (some ⟨g, 0, none⟩) k cap ∧ i = .int .i64 y ∧ Hid (y = (n : Int) - (k : Int)) ∧ Hid (Ch W wr g cap k ((downTo n).take k))) (fun _ i _ => (intOf i).toNat)
  case atStart => exact ⟨0, _, _, n, Nat.zero_le _, rfl, rfl, hide (by simp), HC⟩
  case round =>
    obtain ⟨k, g, cap, y, hk, rfl, rfl, hy, hC⟩ := hrel
    clear HC
    by_cases hlt : k < n
    · have hy' : 0 < y := by have := unhide hy; omega
      have hyn : y ≤ 10000 := by have := unhide hy; omega
      have g0 : decide (0 < y) = true := by simpa using hy'
      have hr := row_one wr y
      have hC1 := (unhide hC).alloc (.cells #[.int .i64 y] 3)
      go_wp2_with (at_builtin; refine wpList_append_ch rfl _ _ rfl hC1 rfl _ _ _ [y] hr rfl (k + 1) rfl (by omega) ?_; intro g' cap' w1 hC2 _; have HC2 : Hid (Ch W w1 g' cap' (k + 1) ((downTo n).take (k + 1))) := (by rw [← down_take n k hlt, show (((n - k : Nat)) : Int) = y by have := unhide hy; omega]; exact hC2); clear hC2 hC1 hr)
      refine ⟨⟨k + 1, g', cap', y - 1, by omega, rfl, by go_num, hide (by have := unhide hy; omega), HC2⟩, ?_⟩
      simp [intOf]; omega
    · have hkn : k = n := by omega
      subst hkn
      have hy0 : ¬ 0 < y := by have := unhide hy; omega
      have hrow := (unhide hC).row (by omega)
      rw [List.take_of_length_le (by rw [downTo_len]; exact Nat.le_refl _)] at hrow
      have hcall := l6Vector_any ⟨g, 0, none⟩ k cap (downTo k) wr hrow
      have HXw := hide ((unhide HX).below (Nat.le_refl _) (unhide hC).low)
      have HBw := hide ((unhide HBW).trans ((unhide hC).low.mono (unhide HBW).size))
      clear hrow hlt
      go_wp2_with (go_at_call 69; refine hcall.mono ?_; rintro e w1 ⟨g1, g2, d2, rfl, r1, r2, hb1⟩; have R1 := hide r1; have R2 := hide r2; have HX1 := hide ((unhide HXw).below (Nat.le_refl _) hb1); have HB1 := hide ((unhide HBw).trans (hb1.mono (unhide HBw).size)); obtain ⟨y0, y1, y2, y3, y4, y5, y6⟩ := (unhide HX1).all; clear r1 r2 hb1)
      have hx := (unhide HX1).sets (c' := false) (u1 := .slice (some ⟨g1, 0, none⟩) 1 1) (u2 := .slice (some ⟨g2, 0, none⟩) k d2)
      obtain ⟨s0, s1, s2, _, _, _⟩ := hx.all
      refine bodyPost_ret (v := .agg #[.bool false, .slice (some ⟨g1, 0, none⟩) 1 1, .slice (some ⟨g2, 0, none⟩) k d2]) (by simp [results, Tryz.results73, go_sem, s0, s1, s2]) rfl ?_
      exact ⟨_, _, _, rfl, (unhide R1).sets (unhide HX1) _ _ _, (unhide R2).sets (unhide HX1) _ _ _, (((unhide HB1).setCell (p := ⟨w.heap.size, 0, none⟩) (Nat.le_refl _) _).setCell (p := ⟨w.heap.size, 1, none⟩) (Nat.le_refl _) _).setCell (p := ⟨w.heap.size, 2, none⟩) (Nat.le_refl _) _⟩

end Go.Proofs.YtgjpchnkodnieaaGreatDoor
namespace Go.Proofs.YtgjpchnkodnieaaGreatDoor
open Go.RowKit

set_option maxHeartbeats 400000 in
theorem l5Single_any (c : Bool) (v1 : Value) (a2 : Option Addr) (n2 c2 : Nat) (w : World) (hs : n2 ≤ 17592186044416) (r : Int) (hr : Hid (singleCode c n2 = r)) :
    Calls Tryz.prog 154 #[.agg #[.bool c, v1, .slice a2 n2 c2]] w fun e w' => e = .returned (.int .i64 r) ∧ Below w.heap.size w w' := by
  rw [← hr.out]
  have hW : ∀ o, Below w.heap.size w (w.alloc o) := fun o => (Below.refl _ _).alloc (Nat.le_refl _) _
  by_cases h : n2 = 1
  · subst h
    cases c
    · go_enter Tryz.func154, Tryz.ntmps154
      go_wp2
      go_ret
      exact ⟨rfl, hW _⟩
    · go_enter Tryz.func154, Tryz.ntmps154
      go_wp2
      go_ret
      exact ⟨rfl, hW _⟩
  · have g0 : ((n2 : Int) != 1) = true := by simp; omega
    have HE : Hid (singleCode c n2 = 5) := by show _ = _; unfold singleCode; rw [if_pos h]
    go_enter Tryz.func154, Tryz.ntmps154
    go_wp2
    go_ret
    exact ⟨ret_int HE.out.symm, hW _⟩

end Go.Proofs.YtgjpchnkodnieaaGreatDoor
namespace Go.Proofs.YtgjpchnkodnieaaGreatDoor
open Go.RowKit

theorem up_take (n k : Nat) (h : k < n) : (upTo n).take k ++ [((k + 1 : Nat) : Int)] = (upTo n).take (k + 1) := by
  rw [List.take_add_one]
  congr 1
  unfold upTo
  rw [List.getElem?_map, List.getElem?_range h]
  rfl

theorem iota_code {c : Bool} {dt : List Int} {r : Int} (h : singleCode c dt.length = r) (hr : r ≠ 0) : iotaA c dt = noAns r := by unfold iotaA; rw [h, if_pos hr]
theorem iota_low {c : Bool} {dt : List Int} (h : singleCode c dt.length = 0) (h2 : dt.getD 0 0 < 0) : iotaA c dt = noAns 3 := by unfold iotaA; rw [h, if_neg (by decide), if_pos h2]
theorem iota_big {c : Bool} {dt : List Int} (h : singleCode c dt.length = 0) (h3 : 10000 < dt.getD 0 0) : iotaA c dt = noAns 7 := by unfold iotaA; rw [h, if_neg (by decide), if_neg (by omega), if_pos h3]
theorem iota_go {c : Bool} {dt : List Int} {N : Nat} (h : singleCode c dt.length = 0) (h2 : dt.getD 0 0 = (N : Int)) (h3 : N ≤ 10000) : iotaA c dt = ⟨false, [(N : Int)], upTo N, 0⟩ := by
  unfold iotaA; rw [h, if_neg (by decide), h2, if_neg (by omega), if_neg (by omega)]; rfl

set_option maxRecDepth 20000 in
set_option maxHeartbeats 8000000 in
theorem l6Iota_any (c : Bool) (v1 : Option Addr) (a2 : Addr) (n1 n2 c1 c2 : Nat) (dt : List Int) (w : World) (h2 : Row w (some a2) n2 dt) (hbd : ∀ k, k < n2 → -1000000000000000 ≤ dt.getD k 0 ∧ dt.getD k 0 ≤ 1000000000000000) :
    Calls Tryz.prog 70 #[.agg #[.bool c, .slice v1 n1 c1, .slice (some a2) n2 c2]] w (GivesRow w (iotaA c dt)) := by
  have hl2 := hide h2.len
  have hs2 := h2.small
  have H2 := hide h2
  have HBD := hide hbd
  clear h2 hbd
  obtain ⟨W0, hW0⟩ : ∃ W0, W0 = (w.alloc (.cells #[.bool c, .slice v1 n1 c1, .slice (some a2) n2 c2] 25)).alloc (.cells #[.bool false, .slice none 0 0, .slice none 0 0] 25) := ⟨_, rfl⟩
  obtain ⟨B4, B5, hB0⟩ := boxes2 (w := w) (c := c) (v1 := .slice v1 n1 c1) (v2 := .slice (some a2) n2 c2) (Below.refl _ _)
  rw [← hW0] at B4 B5 hB0
  have D4 := hide B4
  have D6 := hide B5
  have HB0 := hide hB0
  obtain ⟨r, hr⟩ : ∃ r, singleCode c n2 = r := ⟨_, rfl⟩
  have HSC := hide hr
  have HCC : Hid (singleCode c dt.length = r) := by rw [unhide hl2]; exact hr
  obtain ⟨y0, y1, y2, y3, y4, y5, y6⟩ := B4.all
  rw [hW0] at y0 y1 y2 y3 y4 y5 y6
  clear hr B4 B5 hB0
  go_enter Tryz.func70, Tryz.ntmps70
  go_upto_region 2 with (go_at_call 154; refine (l5Single_any c _ _ _ _ _ hs2 r HSC).mono ?_; rintro e w3 ⟨rfl, hb3⟩; rw [← hW0] at hb3; have HB3 := hide hb3; clear hb3)
  have E4 := hide ((unhide D4).below (Nat.le_refl _) (unhide HB3))
  have E6 := hide ((unhide D6).below (Nat.le_refl _) (unhide HB3))
  have HB := hide ((unhide HB0).trans ((unhide HB3).mono (unhide HB0).size))
  clear D4 D6 HB0 HB3 y0 y1 y2 y3 y4 y5 y6 hW0 W0
  have hz6 := (unhide E6).lt
  by_cases h0 : r = 0
  · subst h0
    have hn2 : n2 = 1 := by have := unhide HSC; unfold singleCode at this; split at this; (· cases this); rename_i h; simpa using h
    subst hn2
    obtain ⟨x0, x1, x2, x3, x4, x5, x6⟩ := (unhide E4).all
    obtain ⟨bk, ok, hab, hbk, hck⟩ := (unhide H2).get (by omega : 0 < 1)
    cases hab
    have hcw := ((unhide HB).cell (p := ⟨bk, ok + 0, none⟩) hbk).trans hck
    rw [Nat.add_zero] at hcw
    obtain ⟨x, hx⟩ : ∃ x, x = dt.getD 0 0 := ⟨_, rfl⟩
    have hxb := unhide HBD 0 (by omega)
    rw [← hx] at hcw hxb
    clear hck
    by_cases hlow : x < 0
    · have HS : Hid (iotaA c dt = noAns 3) := iota_low (unhide HCC) (by rw [← hx]; exact hlow)
      have g0 : decide (x < 0) = true := by simpa using hlow
      clear hx hlow
      go_wp2_with fail
      refine (l4None_any _).mono ?_
      rintro e w9 ⟨rfl, hb9⟩
      obtain ⟨q0, q1, q2, q3, q4, q5, q6⟩ := ((unhide E6).below (Nat.le_refl _) hb9).all
      have hB9 := hide ((unhide HB).trans (hb9.mono (unhide HB).size))
      clear hb9 E4 E6 HB x0 x1 x2 x3 x4 x5 x6 hcw
      go_wp2
      refine bodyPost_ret (v := .tuple #[.agg #[.bool false, .slice none 0 0, .slice none 0 0], .int .i64 3]) (by simp [results, Tryz.results70, go_sem, q0, q1, q2]) rfl ?_
      rw [unhide HS]
      exact ⟨none, 0, 0, none, 0, 0, rfl, row_nil _ _, row_nil _ _, (((unhide hB9).setCell (by simp <;> omega) _).setCell (by simp <;> omega) _).setCell (by simp <;> omega) _⟩
    · have g0 : ¬ x < 0 := hlow
      by_cases hbig : 10000 < x
      · have HS : Hid (iotaA c dt = noAns 7) := iota_big (unhide HCC) (by rw [← hx]; exact hbig)
        have g1 : decide (10000 < x) = true := by simpa using hbig
        clear hx hlow hbig
        go_wp2_with fail
        refine (l4None_any _).mono ?_
        rintro e w9 ⟨rfl, hb9⟩
        obtain ⟨q0, q1, q2, q3, q4, q5, q6⟩ := ((unhide E6).below (Nat.le_refl _) hb9).all
        have hB9 := hide ((unhide HB).trans (hb9.mono (unhide HB).size))
        clear hb9 E4 E6 HB x0 x1 x2 x3 x4 x5 x6 hcw
        go_wp2
        refine bodyPost_ret (v := .tuple #[.agg #[.bool false, .slice none 0 0, .slice none 0 0], .int .i64 7]) (by simp [results, Tryz.results70, go_sem, q0, q1, q2]) rfl ?_
        rw [unhide HS]
        exact ⟨none, 0, 0, none, 0, 0, rfl, row_nil _ _, row_nil _ _, (((unhide hB9).setCell (by simp <;> omega) _).setCell (by simp <;> omega) _).setCell (by simp <;> omega) _⟩
      · obtain ⟨N, hN⟩ : ∃ N : Nat, x = (N : Int) := ⟨x.toNat, by omega⟩
        subst hN
        have hN1 : N ≤ 10000 := by omega
        have HS : Hid (iotaA c dt = ⟨false, [(N : Int)], upTo N, 0⟩) := iota_go (unhide HCC) hx.symm hN1
        have g0' : ¬ (N : Int) < 0 := hlow
        have g1 : ¬ (10000 : Int) < (N : Int) := hbig
        have HC : Hid (Ch w3 (w3.alloc (.cells #[] 3)) w3.heap.size 0 0 []) := Ch.start (Below.refl _ _) rfl
        have hbk3 : bk < w3.heap.size := Nat.lt_of_lt_of_le hbk (unhide HB).size
        clear hx hlow hbig hxb
        go_wp2_with fail
        clear x0 x1 x2 x3 x4 x5 x6 g0 g0' g1
        go_loopw [5, 6] (fun v i wr => ∃ (k g cap : Nat) (y : Int), k ≤ N ∧ v = .slice (some ⟨g, 0, none⟩) k cap ∧ i = .int .i64 y ∧ Hid (y = (k : Int) + 1) ∧ Hid (Ch w3 wr g cap k ((upTo N).take k))) (fun _ i _ => (N + 1 - (intOf i).toNat))
        case atStart => exact ⟨0, _, _, 1, Nat.zero_le _, rfl, rfl, hide (by simp), HC⟩
        case round =>
          obtain ⟨k, g, cap, y, hk, rfl, rfl, hy, hC⟩ := hrel
          clear HC
          have F4 := hide ((unhide E4).below (Nat.le_refl _) (unhide hC).low)
          obtain ⟨x0, x1, x2, x3, x4, x5, x6⟩ := (unhide F4).all
          have hcx := ((unhide hC).low.cell (p := ⟨bk, ok, none⟩) hbk3).trans hcw
          by_cases hlt : k < N
          · have hyn : y ≤ 10000 := by have := unhide hy; omega
            have hy0 : 1 ≤ y := by have := unhide hy; omega
            have g2 : decide (y ≤ (N : Int)) = true := by have := unhide hy; simp; omega
            have hr := row_one wr y
            have hC1 := (unhide hC).alloc (.cells #[.int .i64 y] 3)
            go_wp2_with (at_builtin; refine wpList_append_ch rfl _ _ rfl hC1 rfl _ _ _ [y] hr rfl (k + 1) rfl (by omega) ?_; intro g' cap' w1 hC2 _; have HC2 : Hid (Ch w3 w1 g' cap' (k + 1) ((upTo N).take (k + 1))) := (by rw [← up_take N k hlt, show (((k + 1 : Nat)) : Int) = y by have := unhide hy; omega]; exact hC2); clear hC2 hC1 hr)
            refine ⟨⟨k + 1, g', cap', y + 1, by omega, rfl, by go_num, hide (by have := unhide hy; omega), HC2⟩, ?_⟩
            simp [intOf]; have := unhide hy; omega
          · have hkn : k = N := by omega
            subst hkn
            have hyN : ¬ y ≤ (k : Int) := by have := unhide hy; omega
            have hrow := (unhide hC).row (by omega)
            rw [List.take_of_length_le (by rw [upTo_len]; exact Nat.le_refl _)] at hrow
            have hcall := l6Vector_any ⟨g, 0, none⟩ k cap (upTo k) wr hrow
            have HXw := hide ((unhide E6).below (Nat.le_refl _) (unhide hC).low)
            have HBw := hide ((unhide HB).trans ((unhide hC).low.mono (unhide HB).size))
            clear hrow hlt
            go_wp2_with (go_at_call 69; refine hcall.mono ?_; rintro e w1 ⟨g1, g2, d2, rfl, r1, r2, hb1⟩; have R1 := hide r1; have R2 := hide r2; have HX1 := hide ((unhide HXw).below (Nat.le_refl _) hb1); have HB1 := hide ((unhide HBw).trans (hb1.mono (unhide HBw).size)); obtain ⟨y0, y1, y2, y3, y4, y5, y6⟩ := (unhide HX1).all; clear r1 r2 hb1)
            have hx := (unhide HX1).sets (c' := false) (u1 := .slice (some ⟨g1, 0, none⟩) 1 1) (u2 := .slice (some ⟨g2, 0, none⟩) k d2)
            obtain ⟨s0, s1, s2, _, _, _⟩ := hx.all
            refine bodyPost_ret (v := .tuple #[.agg #[.bool false, .slice (some ⟨g1, 0, none⟩) 1 1, .slice (some ⟨g2, 0, none⟩) k d2], .int .i64 0]) (by simp [results, Tryz.results70, go_sem, s0, s1, s2]) rfl ?_
            rw [unhide HS]
            exact ⟨_, _, _, _, _, _, rfl, (unhide R1).sets (unhide HX1) _ _ _, (unhide R2).sets (unhide HX1) _ _ _, (((unhide HB1).setCell (by simp <;> omega) _).setCell (by simp <;> omega) _).setCell (by simp <;> omega) _⟩
  · have HS : Hid (iotaA c dt = noAns r) := iota_code (unhide HCC) h0
    have hcb : (r != 0) = true := by simp [h0]
    clear h0
    go_wp2_with fail
    refine (l4None_any _).mono ?_
    rintro e w9 ⟨rfl, hb9⟩
    obtain ⟨q0, q1, q2, q3, q4, q5, q6⟩ := ((unhide E6).below (Nat.le_refl _) hb9).all
    have hB9 := hide ((unhide HB).trans (hb9.mono (unhide HB).size))
    clear hb9 E4 E6 HB
    go_wp2
    refine bodyPost_ret (v := .tuple #[.agg #[.bool false, .slice none 0 0, .slice none 0 0], .int .i64 r]) (by simp [results, Tryz.results70, go_sem, q0, q1, q2]) rfl ?_
    rw [unhide HS]
    exact ⟨none, 0, 0, none, 0, 0, rfl, row_nil _ _, row_nil _ _, (((unhide hB9).setCell (by simp <;> omega) _).setCell (by simp <;> omega) _).setCell (by simp <;> omega) _⟩

end Go.Proofs.YtgjpchnkodnieaaGreatDoor
namespace Go.Proofs.YtgjpchnkodnieaaGreatDoor
open Go.RowKit Go.Shelf

/-- What a method gives: an array of its own, laid in the answer's box. -/
theorem own_end {w W : World} {p : Nat} {c d : Bool} {y1 y2 : Option Addr} {l1 k1 l2 k2 : Nat} {code : Int} {b1 b2 : Option Addr} {m1 d1 m2 d2 : Nat} {sh dt : List Int} (hx : Box W p c (.slice y1 l1 k1) (.slice y2 l2 k2)) (h1 : Own W w.heap.size b1 m1 sh) (h2 : Own W w.heap.size b2 m2 dt) (hap : Apart b1 m1 b2 m2) (hb : Below w.heap.size w W) (hp : w.heap.size ≤ p) :
    GivesOwn w ⟨d, sh, dt, code⟩ (.returned (.tuple #[.agg #[.bool d, .slice b1 m1 d1, .slice b2 m2 d2], .int .i64 code])) (((W.setCell ⟨p, 0, none⟩ (.bool d)).setCell ⟨p, 1, none⟩ (.slice b1 m1 d1)).setCell ⟨p, 2, none⟩ (.slice b2 m2 d2)) := by
  have e1 : ∀ k, At b1 m1 k → k ≠ p := fun k hk => h1.row.notBox hx hk
  have e2 : ∀ k, At b2 m2 k → k ≠ p := fun k hk => h2.row.notBox hx hk
  exact ⟨_, _, _, _, _, _, rfl, ((h1.other (q := ⟨p, 0, none⟩) e1 _).other (q := ⟨p, 1, none⟩) e1 _).other (q := ⟨p, 2, none⟩) e1 _, ((h2.other (q := ⟨p, 0, none⟩) e2 _).other (q := ⟨p, 1, none⟩) e2 _).other (q := ⟨p, 2, none⟩) e2 _, hap, ((hb.setCell (p := ⟨p, 0, none⟩) hp _).setCell (p := ⟨p, 1, none⟩) hp _).setCell (p := ⟨p, 2, none⟩) hp _⟩

theorem put_all (zs ts : List Int) (h : ts.length = zs.length) : Go.Sort.putCells (Value.int .i64) 0 ts.toArray (zs.map (Value.int .i64)).toArray = (ts.map (Value.int .i64)).toArray := by
  have h1 := take_putCellsI (zs.map (Value.int .i64)).toArray ts (by simp; omega)
  rw [List.take_of_length_le (by simp [Go.Sort.putCells]; omega)] at h1
  exact Array.ext' (by simpa using h1)

theorem Reverse_blk (g cap n : Nat) (zs : List Int) (w : World) (hb : Blk w g zs) (hn : zs.length = n) (hs : n ≤ 10000) :
    Calls Tryz.prog 221 #[.slice (some ⟨g, 0, none⟩) n cap] w fun e w' => e = .returned (.tuple #[]) ∧ Blk w' g zs.reverse ∧ But (fun x => x = g) w w' := by
  have hb' : w.heap[g]? = some (.cells (zs.map (Value.int .i64)).toArray 3 (0, 0)) := hb
  have hH := holds_of_blockI (ss := zs) hb' (List.take_of_length_le (by simp))
  subst hn
  refine (Any.slices_Reverse_int Tryz.revI g 0 cap zs w hH (by omega)).mono ?_
  rintro e w' ⟨rfl, q, rfl⟩
  have h1 := heap_sortedI (n := q) (os := #[]) zs.reverse.toArray hb'
  have h2 := grownBy_sortedI (w := w) (g := g) (n := q) (os := #[]) zs.reverse.toArray
  rw [Go.Sort.grow_empty] at h1 h2
  rw [put_all _ _ (by simp)] at h1
  exact ⟨rfl, h1, h2.os, h2.tape, h2.output, h2.size, fun k hk hne => h2.block k hk (fun e => by cases e; exact hne rfl)⟩

theorem up_rev (n : Nat) : (upTo n).reverse = downTo n := by
  apply List.ext_getElem
  · simp [upTo, downTo]
  · intro i h1 h2
    simp [upTo, downTo] at h1 h2 ⊢
    omega

set_option maxRecDepth 20000 in
set_option maxHeartbeats 8000000 in
theorem mon_scalarOfOne (op : Int) (c : Bool) (a1 a2 : Addr) (n1 n2 c1 c2 : Nat) (sh dt : List Int) (w : World) (h1 : Row w (some a1) n1 sh) (h2 : Row w (some a2) n2 dt) (ga gb : Addr) (hG : Gl w ga gb) :
    Calls Tryz.prog 137 #[.int .i64 op, .agg #[.bool c, .slice (some a1) n1 c1, .slice (some a2) n2 c2]] w (GivesOwn w (scalar1 op c sh dt)) := by
  have hl1 := hide h1.len
  have hl2 := hide h2.len
  have hs1 := h1.small
  have hs2 := h2.small
  have H1 := hide h1
  have H2 := hide h2
  clear h1 h2
  obtain ⟨W0, hW0⟩ : ∃ W0, W0 = (w.alloc (.cells #[.bool c, .slice (some a1) n1 c1, .slice (some a2) n2 c2] 25)).alloc (.cells #[.bool false, .slice none 0 0, .slice none 0 0] 25) := ⟨_, rfl⟩
  obtain ⟨B4, B5, hB0⟩ := boxes2 (w := w) (c := c) (v1 := .slice (some a1) n1 c1) (v2 := .slice (some a2) n2 c2) (Below.refl _ _)
  rw [← hW0] at B4 B5 hB0
  have E4 := hide B4
  have E6 := hide B5
  have HB := hide hB0
  obtain ⟨x0, x1, x2, x3, x4, x5, x6⟩ := B4.all
  have hz6 := (unhide E6).lt
  have K1 := hide ((unhide H1).below (Nat.le_refl _) hB0)
  have K2 := hide ((unhide H2).below (Nat.le_refl _) hB0)
  clear B4 B5 hB0
  have hcl := implScalar1_any op c a1 a2 n1 n2 c1 c2 sh dt W0 (unhide K1) (unhide K2) ga gb (hG.below (unhide HB))
  obtain ⟨rc, rsh, rdt, rp, hr⟩ : ∃ rc rsh rdt rp, scalar1 op c sh dt = ⟨rc, rsh, rdt, rp⟩ := ⟨_, _, _, _, rfl⟩
  rw [hr] at hcl ⊢
  clear hr hG
  rw [hW0] at hcl x0 x1 x2 x3 x4 x5 x6
  go_enter Tryz.func137, Tryz.ntmps137
  go_wp2_with (go_at_call 217; refine hcl.mono ?_; rintro e w4 ⟨b1, m1, d1, b2, m2, d2, rfl, r1, r2, hap, hb4⟩; rw [← hW0] at r1 r2 hb4; have R1 := hide r1; have R2 := hide r2; have HX := hide ((unhide E6).below (Nat.le_refl _) hb4); have HBX := hide ((unhide HB).trans (hb4.mono (unhide HB).size)); simp only; obtain ⟨q0, q1, q2, q3, q4, q5, q6⟩ := (unhide HX).all; clear r1 r2 hb4)
  have hx := (unhide HX).sets (c' := rc) (u1 := .slice b1 m1 d1) (u2 := .slice b2 m2 d2)
  obtain ⟨s0, s1, s2, _, _, _⟩ := hx.all
  refine bodyPost_ret (v := .tuple #[.agg #[.bool rc, .slice b1 m1 d1, .slice b2 m2 d2], .int .i64 rp]) (by simp [results, Tryz.results137, go_sem, s0, s1, s2]) rfl ?_
  exact own_end (unhide HX) ((unhide R1).mono (unhide HB).size) ((unhide R2).mono (unhide HB).size) hap (unhide HBX) (by omega)

set_option maxRecDepth 20000 in
set_option maxHeartbeats 8000000 in
theorem mon_grade26 (c : Bool) (a1 a2 : Addr) (n1 n2 c1 c2 : Nat) (sh dt : List Int) (w : World) (h1 : Row w (some a1) n1 sh) (h2 : Row w (some a2) n2 dt) :
    Calls Tryz.prog 144 #[.int .i64 26, .agg #[.bool c, .slice (some a1) n1 c1, .slice (some a2) n2 c2]] w (GivesOwn w (gradeA c sh dt false)) := by
  have hl1 := hide h1.len
  have hl2 := hide h2.len
  have hs1 := h1.small
  have hs2 := h2.small
  have H1 := hide h1
  have H2 := hide h2
  clear h1 h2
  obtain ⟨W0, hW0⟩ : ∃ W0, W0 = (w.alloc (.cells #[.bool c, .slice (some a1) n1 c1, .slice (some a2) n2 c2] 25)).alloc (.cells #[.bool false, .slice none 0 0, .slice none 0 0] 25) := ⟨_, rfl⟩
  obtain ⟨B4, B5, hB0⟩ := boxes2 (w := w) (c := c) (v1 := .slice (some a1) n1 c1) (v2 := .slice (some a2) n2 c2) (Below.refl _ _)
  rw [← hW0] at B4 B5 hB0
  have E4 := hide B4
  have E6 := hide B5
  have HB := hide hB0
  obtain ⟨x0, x1, x2, x3, x4, x5, x6⟩ := B4.all
  have hz6 := (unhide E6).lt
  have K1 := hide ((unhide H1).below (Nat.le_refl _) hB0)
  have K2 := hide ((unhide H2).below (Nat.le_refl _) hB0)
  clear B4 B5 hB0
  have hcl := implGrade_any c false (some a1) (some a2) n1 n2 c1 c2 sh dt W0 (unhide K1) (unhide K2)
  obtain ⟨rc, rsh, rdt, rp, hr⟩ : ∃ rc rsh rdt rp, gradeA c sh dt false = ⟨rc, rsh, rdt, rp⟩ := ⟨_, _, _, _, rfl⟩
  rw [hr] at hcl ⊢
  clear hr
  rw [hW0] at hcl x0 x1 x2 x3 x4 x5 x6
  go_enter Tryz.func144, Tryz.ntmps144
  go_wp2_with (go_at_call 223; refine hcl.mono ?_; rintro e w4 ⟨b1, m1, d1, b2, m2, d2, rfl, r1, r2, hap, hb4, _⟩; rw [← hW0] at r1 r2 hb4; have R1 := hide r1; have R2 := hide r2; have HX := hide ((unhide E6).below (Nat.le_refl _) hb4); have HBX := hide ((unhide HB).trans (hb4.mono (unhide HB).size)); simp only; obtain ⟨q0, q1, q2, q3, q4, q5, q6⟩ := (unhide HX).all; clear r1 r2 hb4)
  have hx := (unhide HX).sets (c' := rc) (u1 := .slice b1 m1 d1) (u2 := .slice b2 m2 d2)
  obtain ⟨s0, s1, s2, _, _, _⟩ := hx.all
  refine bodyPost_ret (v := .tuple #[.agg #[.bool rc, .slice b1 m1 d1, .slice b2 m2 d2], .int .i64 rp]) (by simp [results, Tryz.results144, go_sem, s0, s1, s2]) rfl ?_
  exact own_end (unhide HX) ((unhide R1).mono (unhide HB).size) ((unhide R2).mono (unhide HB).size) hap (unhide HBX) (by omega)

set_option maxRecDepth 20000 in
set_option maxHeartbeats 8000000 in
theorem mon_grade27 (c : Bool) (a1 a2 : Addr) (n1 n2 c1 c2 : Nat) (sh dt : List Int) (w : World) (h1 : Row w (some a1) n1 sh) (h2 : Row w (some a2) n2 dt) :
    Calls Tryz.prog 144 #[.int .i64 27, .agg #[.bool c, .slice (some a1) n1 c1, .slice (some a2) n2 c2]] w (GivesOwn w (gradeA c sh dt true)) := by
  have hl1 := hide h1.len
  have hl2 := hide h2.len
  have hs1 := h1.small
  have hs2 := h2.small
  have H1 := hide h1
  have H2 := hide h2
  clear h1 h2
  obtain ⟨W0, hW0⟩ : ∃ W0, W0 = (w.alloc (.cells #[.bool c, .slice (some a1) n1 c1, .slice (some a2) n2 c2] 25)).alloc (.cells #[.bool false, .slice none 0 0, .slice none 0 0] 25) := ⟨_, rfl⟩
  obtain ⟨B4, B5, hB0⟩ := boxes2 (w := w) (c := c) (v1 := .slice (some a1) n1 c1) (v2 := .slice (some a2) n2 c2) (Below.refl _ _)
  rw [← hW0] at B4 B5 hB0
  have E4 := hide B4
  have E6 := hide B5
  have HB := hide hB0
  obtain ⟨x0, x1, x2, x3, x4, x5, x6⟩ := B4.all
  have hz6 := (unhide E6).lt
  have K1 := hide ((unhide H1).below (Nat.le_refl _) hB0)
  have K2 := hide ((unhide H2).below (Nat.le_refl _) hB0)
  clear B4 B5 hB0
  have hcl := implGrade_any c true (some a1) (some a2) n1 n2 c1 c2 sh dt W0 (unhide K1) (unhide K2)
  obtain ⟨rc, rsh, rdt, rp, hr⟩ : ∃ rc rsh rdt rp, gradeA c sh dt true = ⟨rc, rsh, rdt, rp⟩ := ⟨_, _, _, _, rfl⟩
  rw [hr] at hcl ⊢
  clear hr
  rw [hW0] at hcl x0 x1 x2 x3 x4 x5 x6
  go_enter Tryz.func144, Tryz.ntmps144
  go_wp2_with (go_at_call 223; refine hcl.mono ?_; rintro e w4 ⟨b1, m1, d1, b2, m2, d2, rfl, r1, r2, hap, hb4, _⟩; rw [← hW0] at r1 r2 hb4; have R1 := hide r1; have R2 := hide r2; have HX := hide ((unhide E6).below (Nat.le_refl _) hb4); have HBX := hide ((unhide HB).trans (hb4.mono (unhide HB).size)); simp only; obtain ⟨q0, q1, q2, q3, q4, q5, q6⟩ := (unhide HX).all; clear r1 r2 hb4)
  have hx := (unhide HX).sets (c' := rc) (u1 := .slice b1 m1 d1) (u2 := .slice b2 m2 d2)
  obtain ⟨s0, s1, s2, _, _, _⟩ := hx.all
  refine bodyPost_ret (v := .tuple #[.agg #[.bool rc, .slice b1 m1 d1, .slice b2 m2 d2], .int .i64 rp]) (by simp [results, Tryz.results144, go_sem, s0, s1, s2]) rfl ?_
  exact own_end (unhide HX) ((unhide R1).mono (unhide HB).size) ((unhide R2).mono (unhide HB).size) hap (unhide HBX) (by omega)

set_option maxRecDepth 20000 in
set_option maxHeartbeats 8000000 in
theorem mon_count (op : Int) (c : Bool) (a1 a2 : Addr) (n1 n2 c1 c2 : Nat) (sh dt : List Int) (w : World) (h1 : Row w (some a1) n1 sh) (h2 : Row w (some a2) n2 dt) (hbd : ∀ k, k < n2 → -1000000000000000 ≤ dt.getD k 0 ∧ dt.getD k 0 ≤ 1000000000000000) :
    Calls Tryz.prog 139 #[.int .i64 op, .agg #[.bool c, .slice (some a1) n1 c1, .slice (some a2) n2 c2]] w (GivesOwn w (iotaA c dt)) := by
  have hl1 := hide h1.len
  have hl2 := hide h2.len
  have hs1 := h1.small
  have hs2 := h2.small
  have H1 := hide h1
  have H2 := hide h2
  clear h1 h2
  obtain ⟨W0, hW0⟩ : ∃ W0, W0 = (w.alloc (.cells #[.bool c, .slice (some a1) n1 c1, .slice (some a2) n2 c2] 25)).alloc (.cells #[.bool false, .slice none 0 0, .slice none 0 0] 25) := ⟨_, rfl⟩
  obtain ⟨B4, B5, hB0⟩ := boxes2 (w := w) (c := c) (v1 := .slice (some a1) n1 c1) (v2 := .slice (some a2) n2 c2) (Below.refl _ _)
  rw [← hW0] at B4 B5 hB0
  have E4 := hide B4
  have E6 := hide B5
  have HB := hide hB0
  obtain ⟨x0, x1, x2, x3, x4, x5, x6⟩ := B4.all
  have hz6 := (unhide E6).lt
  have K1 := hide ((unhide H1).below (Nat.le_refl _) hB0)
  have K2 := hide ((unhide H2).below (Nat.le_refl _) hB0)
  clear B4 B5 hB0
  have HBD := hide hbd
  clear hbd
  obtain ⟨q0, q1, q2, q3, q4, q5, q6⟩ := (unhide E6).all
  by_cases hn : n2 = 1
  rotate_left
  · have HS : Hid (iotaA c dt = noAns 5) := iota_code (r := 5) (by rw [unhide hl2]; unfold singleCode; rw [if_pos hn]) (by decide)
    have g0 : ((n2 : Int) != 1) = true := by simp; omega
    clear hn
    rw [hW0] at x0 x1 x2 x3 x4 x5 x6 q0 q1 q2 q3 q4 q5 q6
    go_enter Tryz.func139, Tryz.ntmps139
    go_wp2_with fail
    rw [← hW0]
    clear q0 q1 q2 q3 q4 q5 q6
    obtain ⟨q0, q1, q2, _, _, _⟩ := (unhide E6).all
    refine bodyPost_ret (v := .tuple #[.agg #[.bool false, .slice none 0 0, .slice none 0 0], .int .i64 5]) (by simp [results, Tryz.results139, go_sem, q0, q1, q2]) rfl ?_
    rw [unhide HS]
    exact gives_none (unhide HB)
  subst hn
  cases c with
  | true =>
    have HS : Hid (iotaA true dt = noAns 3) := iota_code (r := 3) (by rw [unhide hl2]; rfl) (by decide)
    rw [hW0] at x0 x1 x2 x3 x4 x5 x6 q0 q1 q2 q3 q4 q5 q6
    go_enter Tryz.func139, Tryz.ntmps139
    go_wp2_with fail
    rw [← hW0]
    clear q0 q1 q2 q3 q4 q5 q6
    obtain ⟨q0, q1, q2, _, _, _⟩ := (unhide E6).all
    refine bodyPost_ret (v := .tuple #[.agg #[.bool false, .slice none 0 0, .slice none 0 0], .int .i64 3]) (by simp [results, Tryz.results139, go_sem, q0, q1, q2]) rfl ?_
    rw [unhide HS]
    exact gives_none (unhide HB)
  | false =>
  obtain ⟨bk, ok, hab, hbk, hck⟩ := (unhide K2).get (by omega : 0 < 1)
  cases hab
  rw [Nat.add_zero] at hck
  obtain ⟨x, hx⟩ : ∃ x, x = dt.getD 0 0 := ⟨_, rfl⟩
  have hxb := unhide HBD 0 (by omega)
  rw [← hx] at hck hxb
  have HC0 : Hid (singleCode false dt.length = 0) := by rw [unhide hl2]; exact rfl
  by_cases hlow : x < 0
  · have HS : Hid (iotaA false dt = noAns 3) := iota_low (unhide HC0) (by rw [← hx]; exact hlow)
    have g0 : decide (x < 0) = true := by simpa using hlow
    clear hx hlow
    rw [hW0] at x0 x1 x2 x3 x4 x5 x6 q0 q1 q2 q3 q4 q5 q6 hck
    go_enter Tryz.func139, Tryz.ntmps139
    go_wp2_with fail
    rw [← hW0]
    clear q0 q1 q2 q3 q4 q5 q6
    obtain ⟨q0, q1, q2, _, _, _⟩ := (unhide E6).all
    refine bodyPost_ret (v := .tuple #[.agg #[.bool false, .slice none 0 0, .slice none 0 0], .int .i64 3]) (by simp [results, Tryz.results139, go_sem, q0, q1, q2]) rfl ?_
    rw [unhide HS]
    exact gives_none (unhide HB)
  by_cases hbig : 10000 < x
  · have HS : Hid (iotaA false dt = noAns 7) := iota_big (unhide HC0) (by rw [← hx]; exact hbig)
    have g0 : ¬ x < 0 := hlow
    have g1 : decide (10000 < x) = true := by simpa using hbig
    clear hx hlow hbig
    rw [hW0] at x0 x1 x2 x3 x4 x5 x6 q0 q1 q2 q3 q4 q5 q6 hck
    go_enter Tryz.func139, Tryz.ntmps139
    go_wp2_with fail
    rw [← hW0]
    clear q0 q1 q2 q3 q4 q5 q6
    obtain ⟨q0, q1, q2, _, _, _⟩ := (unhide E6).all
    refine bodyPost_ret (v := .tuple #[.agg #[.bool false, .slice none 0 0, .slice none 0 0], .int .i64 7]) (by simp [results, Tryz.results139, go_sem, q0, q1, q2]) rfl ?_
    rw [unhide HS]
    exact gives_none (unhide HB)
  obtain ⟨N, hN⟩ : ∃ N : Nat, x = (N : Int) := ⟨x.toNat, by omega⟩
  subst hN
  have hN1 : N ≤ 10000 := by omega
  have HS : Hid (iotaA false dt = ⟨false, [(N : Int)], upTo N, 0⟩) := iota_go (unhide HC0) hx.symm hN1
  have g0 : ¬ (N : Int) < 0 := hlow
  have g1 : ¬ (10000 : Int) < (N : Int) := hbig
  have hcl := numbersUpTo_any N hN1 W0
  clear hx hlow hbig hxb
  rw [hW0] at x0 x1 x2 x3 x4 x5 x6 hck hcl
  go_enter Tryz.func139, Tryz.ntmps139
  go_wp2_with (go_at_call 218; refine hcl.mono ?_; rintro e w4 ⟨s, g, rfl, hs0, hg0, hsg, hbs, hbg, hb4⟩; rw [← hW0] at hs0 hg0 hb4; have R1 := hide hbs; have R2 := hide hbg; have HX := hide ((unhide E6).below (Nat.le_refl _) hb4); have HBX := hide ((unhide HB).trans (hb4.mono (unhide HB).size)); clear q0 q1 q2 q3 q4 q5 q6; obtain ⟨q0, q1, q2, q3, q4, q5, q6⟩ := (unhide HX).all; clear hbs hbg hb4)
  have hz0 := (unhide HB).size
  rw [unhide HS]
  have hx := (unhide HX).sets (c' := false) (u1 := .slice (some ⟨s, 0, none⟩) 1 1) (u2 := .slice (some ⟨g, 0, none⟩) N N)
  obtain ⟨s0, s1, s2, _, _, _⟩ := hx.all
  refine bodyPost_ret (v := .tuple #[.agg #[.bool false, .slice (some ⟨s, 0, none⟩) 1 1, .slice (some ⟨g, 0, none⟩) N N], .int .i64 0]) (by simp [results, Tryz.results139, go_sem, s0, s1, s2]) rfl ?_
  exact own_end (unhide HX) ((unhide R1).own rfl (by omega) (by omega)) ((unhide R2).own (upTo_len N) (by omega) (by omega)) (fun k h1 h2 => by have e1 := at_eq h1; have e2 := at_eq h2; omega) (unhide HBX) (by omega)

set_option maxRecDepth 20000 in
set_option maxHeartbeats 8000000 in
theorem mon_turn (op : Int) (c : Bool) (a1 a2 : Option Addr) (n1 n2 c1 c2 : Nat) (sh dt : List Int) (w : World) (h1 : Row w a1 n1 sh) (h2 : Row w a2 n2 dt) (hn5 : n1 ≤ 5) :
    Calls Tryz.prog 142 #[.int .i64 op, .agg #[.bool c, .slice a1 n1 c1, .slice a2 n2 c2]] w (GivesOwn w (transpose false c [(n1 : Int)] (downTo n1) sh dt)) := by
  have hl1 := hide h1.len
  have hl2 := hide h2.len
  have hs1 := h1.small
  have hs2 := h2.small
  have H1 := hide h1
  have H2 := hide h2
  clear h1 h2
  obtain ⟨W0, hW0⟩ : ∃ W0, W0 = (w.alloc (.cells #[.bool c, .slice a1 n1 c1, .slice a2 n2 c2] 25)).alloc (.cells #[.bool false, .slice none 0 0, .slice none 0 0] 25) := ⟨_, rfl⟩
  obtain ⟨B4, B5, hB0⟩ := boxes2 (w := w) (c := c) (v1 := .slice a1 n1 c1) (v2 := .slice a2 n2 c2) (Below.refl _ _)
  rw [← hW0] at B4 B5 hB0
  have E4 := hide B4
  have E6 := hide B5
  have HB := hide hB0
  obtain ⟨x0, x1, x2, x3, x4, x5, x6⟩ := B4.all
  have hz6 := (unhide E6).lt
  have K1 := hide ((unhide H1).below (Nat.le_refl _) hB0)
  have K2 := hide ((unhide H2).below (Nat.le_refl _) hB0)
  clear B4 B5 hB0
  have hcl := numbersUpTo_any n1 (by omega) W0
  rw [hW0] at hcl x0 x1 x2 x3 x4 x5 x6
  obtain ⟨rc, rsh, rdt, rp, hr⟩ : ∃ rc rsh rdt rp, transpose false c [(n1 : Int)] (downTo n1) sh dt = ⟨rc, rsh, rdt, rp⟩ := ⟨_, _, _, _, rfl⟩
  have HRR := hide hr
  rw [hr]
  clear hr
  go_enter Tryz.func142, Tryz.ntmps142
  go_upto_region 2 with (go_at_call 218; refine hcl.mono ?_; rintro e w4 ⟨s, g, rfl, hs0, hg0, hsg, hbs, hbg, hb4⟩; rw [← hW0] at hs0 hg0 hb4; have R1 := hide hbs; have R2 := hide hbg; have HK4 := hide hb4; clear hbs hbg hb4)
  clear hcl x0 x1 x2 x3 x4 x5 x6 hW0
  obtain ⟨W5, hW5⟩ : ∃ W, W = w4.alloc (.cells #[.bool false, .slice (some ⟨s, 0, none⟩) 1 1, .slice (some ⟨g, 0, none⟩) n1 n1] 25) := ⟨_, rfl⟩
  obtain ⟨p5, hp5⟩ : ∃ p, p = w4.heap.size := ⟨_, rfl⟩
  have hK5 : Below w4.heap.size w4 W5 := by rw [hW5]; exact (Below.refl _ _).alloc (Nat.le_refl _) _
  have HX5 : Hid (Box W5 p5 false (.slice (some ⟨s, 0, none⟩) 1 1) (.slice (some ⟨g, 0, none⟩) n1 n1)) := by rw [hW5, hp5]; exact Box.new _ _ _ _
  have S1 := hide ((unhide R1).below (Nat.le_refl _) hK5)
  have S2 := hide ((unhide R2).below (Nat.le_refl _) hK5)
  have HK : Hid (Below W0.heap.size W0 W5) := (unhide HK4).trans (hK5.mono (unhide HK4).size)
  have F4 := hide ((unhide E4).below (Nat.le_refl _) (unhide HK))
  have F6 := hide ((unhide E6).below (Nat.le_refl _) (unhide HK))
  have hsz := (unhide HK4).size
  have hgp : g < p5 := by rw [hp5]; exact (unhide R2).lt
  have hsp : s < p5 := by rw [hp5]; exact (unhide R1).lt
  rw [← hW5, ← hp5]
  clear hW5 hp5 hK5 R1 R2 HK4 E4 E6
  obtain ⟨y0, y1, y2, y3, y4, y5, y6⟩ := (unhide HX5).all
  have hrv := Reverse_blk g n1 n1 (upTo n1) W5 (unhide S2) (upTo_len n1) (by omega)
  rw [up_rev] at hrv
  go_upto_region 3 with (go_at_call 221; refine hrv.mono ?_; rintro e w6 ⟨rfl, hb6, hbt⟩; have T2 := hide hb6; have HBT := hide hbt; clear hb6 hbt)
  clear hrv y0 y1 y2 y3 y4 y5 y6
  have hz0 := (unhide HB).size
  have G4 := hide ((unhide F4).but (unhide HBT) (show ¬ w.heap.size = g by omega))
  have G6 := hide ((unhide F6).but (unhide HBT) (show ¬ w.heap.size + 1 = g by omega))
  have G5 := hide ((unhide HX5).but (unhide HBT) (show ¬ p5 = g by omega))
  have T1 : Hid (Blk w6 s [(n1 : Int)]) := ((unhide HBT).block s (by have := (unhide HX5).lt; omega) (by omega)).trans (unhide S1)
  have HB6 : Hid (Below w.heap.size w w6) := ((unhide HB).trans ((unhide HK).mono (unhide HB).size)).trans ((unhide HBT).below (by have := (unhide HK).size; omega) (fun y hy => by omega))
  have L1 := hide ((unhide H1).below (Nat.le_refl _) (unhide HB6))
  have L2 := hide ((unhide H2).below (Nat.le_refl _) (unhide HB6))
  clear S1 S2 F4 F6 HX5 HBT HK
  obtain ⟨x0, x1, x2, x3, x4, x5, x6⟩ := (unhide G4).all
  obtain ⟨y0, y1, y2, y3, y4, y5, y6⟩ := (unhide G5).all
  have htr := implTranspose_any false c (some ⟨s, 0, none⟩) (some ⟨g, 0, none⟩) a1 a2 1 n1 n1 n2 1 n1 c1 c2 [(n1 : Int)] (downTo n1) sh dt w6 ((unhide T1).row rfl (by omega)) ((unhide T2).row (downTo_len n1) (by omega)) (unhide L1) (unhide L2)
  rw [unhide HRR] at htr
  go_wp2_with (go_at_call 15; refine htr.mono ?_; rintro e w7 ⟨b1, m1, d1, b2, m2, d2, rfl, r1, r2, hap, hb7⟩; have Q1 := hide r1; have Q2 := hide r2; have HX := hide ((unhide G6).below (Nat.le_refl _) hb7); have HBX := hide ((unhide HB6).trans (hb7.mono (unhide HB6).size)); simp only; obtain ⟨q0, q1, q2, q3, q4, q5, q6⟩ := (unhide HX).all; clear r1 r2 hb7)
  have hx := (unhide HX).sets (c' := rc) (u1 := .slice b1 m1 d1) (u2 := .slice b2 m2 d2)
  obtain ⟨s0, s1, s2, _, _, _⟩ := hx.all
  refine bodyPost_ret (v := .tuple #[.agg #[.bool rc, .slice b1 m1 d1, .slice b2 m2 d2], .int .i64 rp]) (by simp [results, Tryz.results142, go_sem, s0, s1, s2]) rfl ?_
  exact own_end (unhide HX) ((unhide Q1).mono (unhide HB6).size) ((unhide Q2).mono (unhide HB6).size) hap (unhide HBX) (by omega)

end Go.Proofs.YtgjpchnkodnieaaGreatDoor
namespace Go.Proofs.YtgjpchnkodnieaaGreatDoor
open Go.RowKit Go.Shelf

theorem blk_one (V : World) (x : Int) : Blk (V.alloc (.cells #[.int .i64 x] 3)) V.heap.size [x] := World.alloc_heap_new V _

set_option maxRecDepth 20000 in
set_option maxHeartbeats 8000000 in
theorem mon_shape (op : Int) (c : Bool) (a1 a2 : Addr) (n1 n2 c1 c2 : Nat) (sh dt : List Int) (w : World) (h1 : Row w (some a1) n1 sh) (h2 : Row w (some a2) n2 dt) :
    Calls Tryz.prog 138 #[.int .i64 op, .agg #[.bool c, .slice (some a1) n1 c1, .slice (some a2) n2 c2]] w (GivesOwn w (⟨false, [(n1 : Int)], sh, 0⟩)) := by
  have hl1 := hide h1.len
  have hl2 := hide h2.len
  have hs1 := h1.small
  have hs2 := h2.small
  have H1 := hide h1
  have H2 := hide h2
  clear h1 h2
  obtain ⟨W0, hW0⟩ : ∃ W0, W0 = (w.alloc (.cells #[.bool c, .slice (some a1) n1 c1, .slice (some a2) n2 c2] 25)).alloc (.cells #[.bool false, .slice none 0 0, .slice none 0 0] 25) := ⟨_, rfl⟩
  obtain ⟨B4, B5, hB0⟩ := boxes2 (w := w) (c := c) (v1 := .slice (some a1) n1 c1) (v2 := .slice (some a2) n2 c2) (Below.refl _ _)
  rw [← hW0] at B4 B5 hB0
  have E4 := hide B4
  have E6 := hide B5
  have HB := hide hB0
  obtain ⟨x0, x1, x2, x3, x4, x5, x6⟩ := B4.all
  have hz6 := (unhide E6).lt
  have K1 := hide ((unhide H1).below (Nat.le_refl _) hB0)
  have K2 := hide ((unhide H2).below (Nat.le_refl _) hB0)
  clear B4 B5 hB0
  have hz0 := (unhide HB).size
  have hK0 : Below W0.heap.size W0 W0.drew := (Below.refl _ _).drew
  have HKEEP : ∀ wx, Below (w.heap.size + 1) W0 wx → Below (w.heap.size + 1) W0 wx ∧ wx.cell? ⟨w.heap.size, 1, none⟩ = some (.slice (some a1) n1 c1) := fun wx hwx => ⟨hwx, (((unhide E4).low (by omega) hwx).cells).2.1⟩
  have hR9 : ∀ wx, Below W0.heap.size W0 wx → Row wx (some a1) n1 sh := fun wx hwx => (unhide K1).below (Nat.le_refl _) hwx
  go_enter Tryz.func138, Tryz.ntmps138
  go_wp2_with fail
  rw [← hW0]
  clear hW0 x3 x4 x5
  go_region_held (fun wx => Below (w.heap.size + 1) W0 wx ∧ wx.cell? ⟨w.heap.size, 1, none⟩ = some (.slice (some a1) n1 c1)) (first | exact HKEEP _ (hK4.mono (by omega)) | exact HKEEP _ ((hK4.alloc hK4.size _).mono (by omega)) | exact HKEEP _ ((((hK4.mono (by omega)).setCell (by simp) _).setCell (by simp) _).setCell (by simp) _) | exact HKEEP _ ((((hK4.mono (by omega)).setCell (by simp) _).setCell (by simp) _).setCell (by simp) _ |>.alloc (by have := hK4.size; simp; omega) _) | exact HKEEP _ (hK0.mono (by omega)) | exact HKEEP _ ((hK0.alloc (by simp) _).mono (by omega)) | exact HKEEP _ ((((Below.refl _ _).alloc (Nat.le_refl _) _).drew).mono (by omega)))
    (first
    | (go_at_call 63; refine (Clone_opt (some a1) n1 c1 sh _ (by first | exact hR9 _ hK0 | exact hR9 _ (hK0.alloc (by simp) _) | exact hR9 _ ((Below.refl _ _).alloc (Nat.le_refl _) _).drew)).mono ?_; rintro e w4 ⟨g2, d2, rfl, _, ho, hb4⟩; have hK4 : Below W0.heap.size W0 w4 := (by first | exact hK0.trans (hb4.mono (by simp)) | exact (hK0.alloc (by simp) _).trans (hb4.mono (by simp)) | exact (((Below.refl _ _).alloc (Nat.le_refl _) _).drew).trans (hb4.mono (by simp))); (first | (with_reducible have hR1 := (blk_one _ _).below (Nat.le_refl _) hb4) | (with_reducible have hR1 := ((blk_one _ _).below (Nat.le_refl _) (Below.refl _ _).drew).below (Nat.le_refl _) hb4) | skip); (first | have hlo : ∀ k, At g2 n1 k → W0.heap.size + 1 ≤ k := (fun k hk => by have := ho.low hk; simpa using this) | skip); have R2 := hide ho; obtain ⟨q0, q1, q2, q3, q4, q5, q6⟩ := ((unhide E6).below (Nat.le_refl _) hK4).all; clear ho hb4))
  all_goals go_wp2_with fail
  all_goals
    have HX := hide ((unhide E6).below (Nat.le_refl _) hK4)
    have HBX := hide ((unhide HB).trans (hK4.mono (unhide HB).size))
    have hbz := (unhide HBX).size
    first
    | (have hx := (unhide HX).sets (c' := false) (u1 := .slice (some ⟨W0.heap.size, 0, none⟩) 1 1) (u2 := .slice g2 n1 d2)
       obtain ⟨s0, s1, s2, _, _, _⟩ := hx.all
       have hR1' : Blk w4 W0.heap.size [(n1 : Int)] := by simpa using hR1
       refine bodyPost_ret (v := .tuple #[.agg #[.bool false, .slice (some ⟨W0.heap.size, 0, none⟩) 1 1, .slice g2 n1 d2], .int .i64 0]) (by simp [results, Tryz.results138, go_sem, s0, s1, s2]) rfl ?_
       exact own_end (unhide HX) (hR1'.own rfl (by omega) (by omega)) ((unhide R2).mono (by simp; omega)) (fun k k1 k2 => by have e1 := at_eq k1; have e2 := hlo _ k2; omega) (unhide HBX) (by omega))
    | (have hx := (unhide HX).sets (c' := false) (u1 := .slice (some ⟨w4.heap.size, 0, none⟩) 1 1) (u2 := .slice g2 n1 d2)
       obtain ⟨s0, s1, s2, _, _, _⟩ := (hx.alloc (.cells #[.int .i64 (n1 : Nat)] 3)).all
       have hrv : Blk ((((w4.setCell ⟨w.heap.size + 1, 0, none⟩ (.bool false)).setCell ⟨w.heap.size + 1, 1, none⟩ (.slice (some ⟨w4.heap.size, 0, none⟩) 1 1)).setCell ⟨w.heap.size + 1, 2, none⟩ (.slice g2 n1 d2)).alloc (.cells #[.int .i64 (n1 : Nat)] 3)) w4.heap.size [(n1 : Int)] := by have := blk_one (((w4.setCell ⟨w.heap.size + 1, 0, none⟩ (.bool false)).setCell ⟨w.heap.size + 1, 1, none⟩ (.slice (some ⟨w4.heap.size, 0, none⟩) 1 1)).setCell ⟨w.heap.size + 1, 2, none⟩ (.slice g2 n1 d2)) (n1 : Int); simpa using this
       refine bodyPost_ret (v := .tuple #[.agg #[.bool false, .slice (some ⟨w4.heap.size, 0, none⟩) 1 1, .slice g2 n1 d2], .int .i64 0]) (by simp [results, Tryz.results138, go_sem, s0, s1, s2]) rfl ?_
       have e2 : ∀ k, At g2 n1 k → k ≠ w.heap.size + 1 := fun k hk => (unhide R2).row.notBox (unhide HX) hk
       have o2 := (((((unhide R2).mono (show w.heap.size ≤ _ by simp; omega)).other (q := ⟨w.heap.size + 1, 0, none⟩) e2 (.bool false)).other (q := ⟨w.heap.size + 1, 1, none⟩) e2 (.slice (some ⟨w4.heap.size, 0, none⟩) 1 1)).other (q := ⟨w.heap.size + 1, 2, none⟩) e2 (.slice g2 n1 d2)).alloc (.cells #[.int .i64 (n1 : Nat)] 3)
       exact ⟨_, _, _, _, _, _, rfl, hrv.own rfl (by omega) (by omega), o2, fun k k1 k2 => by have e1 := at_eq k1; have e3 := (unhide R2).row.hi k2; omega, Below.alloc ((((unhide HBX).setCell (by simp <;> omega) _).setCell (by simp <;> omega) _).setCell (by simp <;> omega) _) (by simp; omega) _⟩)

set_option maxRecDepth 20000 in
set_option maxHeartbeats 8000000 in
theorem mon_elements (op : Int) (c : Bool) (a1 a2 : Addr) (n1 n2 c1 c2 : Nat) (sh dt : List Int) (w : World) (h1 : Row w (some a1) n1 sh) (h2 : Row w (some a2) n2 dt) :
    Calls Tryz.prog 140 #[.int .i64 op, .agg #[.bool c, .slice (some a1) n1 c1, .slice (some a2) n2 c2]] w (GivesOwn w (⟨c, [(n2 : Int)], dt, 0⟩)) := by
  have hl1 := hide h1.len
  have hl2 := hide h2.len
  have hs1 := h1.small
  have hs2 := h2.small
  have H1 := hide h1
  have H2 := hide h2
  clear h1 h2
  obtain ⟨W0, hW0⟩ : ∃ W0, W0 = (w.alloc (.cells #[.bool c, .slice (some a1) n1 c1, .slice (some a2) n2 c2] 25)).alloc (.cells #[.bool false, .slice none 0 0, .slice none 0 0] 25) := ⟨_, rfl⟩
  obtain ⟨B4, B5, hB0⟩ := boxes2 (w := w) (c := c) (v1 := .slice (some a1) n1 c1) (v2 := .slice (some a2) n2 c2) (Below.refl _ _)
  rw [← hW0] at B4 B5 hB0
  have E4 := hide B4
  have E6 := hide B5
  have HB := hide hB0
  obtain ⟨x0, x1, x2, x3, x4, x5, x6⟩ := B4.all
  have hz6 := (unhide E6).lt
  have K1 := hide ((unhide H1).below (Nat.le_refl _) hB0)
  have K2 := hide ((unhide H2).below (Nat.le_refl _) hB0)
  clear B4 B5 hB0
  have hz0 := (unhide HB).size
  have hK0 : Below W0.heap.size W0 W0.drew := (Below.refl _ _).drew
  have HKEEP : ∀ wx, Below (w.heap.size + 1) W0 wx → Below (w.heap.size + 1) W0 wx ∧ wx.cell? ⟨w.heap.size, 0, none⟩ = some (.bool c) ∧ wx.cell? ⟨w.heap.size, 2, none⟩ = some (.slice (some a2) n2 c2) := fun wx hwx => ⟨hwx, (((unhide E4).low (by omega) hwx).cells).1, (((unhide E4).low (by omega) hwx).cells).2.2⟩
  have hR9 : ∀ wx, Below W0.heap.size W0 wx → Row wx (some a2) n2 dt := fun wx hwx => (unhide K2).below (Nat.le_refl _) hwx
  go_enter Tryz.func140, Tryz.ntmps140
  go_wp2_with fail
  rw [← hW0]
  clear hW0 x3 x4 x5
  go_region_held (fun wx => Below (w.heap.size + 1) W0 wx ∧ wx.cell? ⟨w.heap.size, 0, none⟩ = some (.bool c) ∧ wx.cell? ⟨w.heap.size, 2, none⟩ = some (.slice (some a2) n2 c2)) (first | exact HKEEP _ (hK4.mono (by omega)) | exact HKEEP _ ((hK4.alloc hK4.size _).mono (by omega)) | exact HKEEP _ ((((hK4.mono (by omega)).setCell (by simp) _).setCell (by simp) _).setCell (by simp) _) | exact HKEEP _ ((((hK4.mono (by omega)).setCell (by simp) _).setCell (by simp) _).setCell (by simp) _ |>.alloc (by have := hK4.size; simp; omega) _) | exact HKEEP _ (hK0.mono (by omega)) | exact HKEEP _ ((hK0.alloc (by simp) _).mono (by omega)) | exact HKEEP _ ((((Below.refl _ _).alloc (Nat.le_refl _) _).drew).mono (by omega)))
    (first
    | (go_at_call 63; refine (Clone_opt (some a2) n2 c2 dt _ (by first | exact hR9 _ hK0 | exact hR9 _ (hK0.alloc (by simp) _) | exact hR9 _ ((Below.refl _ _).alloc (Nat.le_refl _) _).drew)).mono ?_; rintro e w4 ⟨g2, d2, rfl, _, ho, hb4⟩; have hK4 : Below W0.heap.size W0 w4 := (by first | exact hK0.trans (hb4.mono (by simp)) | exact (hK0.alloc (by simp) _).trans (hb4.mono (by simp)) | exact (((Below.refl _ _).alloc (Nat.le_refl _) _).drew).trans (hb4.mono (by simp))); (first | (with_reducible have hR1 := (blk_one _ _).below (Nat.le_refl _) hb4) | (with_reducible have hR1 := ((blk_one _ _).below (Nat.le_refl _) (Below.refl _ _).drew).below (Nat.le_refl _) hb4) | skip); (first | have hlo : ∀ k, At g2 n2 k → W0.heap.size + 1 ≤ k := (fun k hk => by have := ho.low hk; simpa using this) | skip); have R2 := hide ho; obtain ⟨q0, q1, q2, q3, q4, q5, q6⟩ := ((unhide E6).below (Nat.le_refl _) hK4).all; clear ho hb4))
  all_goals go_wp2_with fail
  all_goals
    have HX := hide ((unhide E6).below (Nat.le_refl _) hK4)
    have HBX := hide ((unhide HB).trans (hK4.mono (unhide HB).size))
    have hbz := (unhide HBX).size
    first
    | (have hx := (unhide HX).sets (c' := c) (u1 := .slice (some ⟨W0.heap.size, 0, none⟩) 1 1) (u2 := .slice g2 n2 d2)
       obtain ⟨s0, s1, s2, _, _, _⟩ := hx.all
       have hR1' : Blk w4 W0.heap.size [(n2 : Int)] := by simpa using hR1
       refine bodyPost_ret (v := .tuple #[.agg #[.bool c, .slice (some ⟨W0.heap.size, 0, none⟩) 1 1, .slice g2 n2 d2], .int .i64 0]) (by simp [results, Tryz.results140, go_sem, s0, s1, s2]) rfl ?_
       exact own_end (unhide HX) (hR1'.own rfl (by omega) (by omega)) ((unhide R2).mono (by simp; omega)) (fun k k1 k2 => by have e1 := at_eq k1; have e2 := hlo _ k2; omega) (unhide HBX) (by omega))
    | (have hx := (unhide HX).sets (c' := c) (u1 := .slice (some ⟨w4.heap.size, 0, none⟩) 1 1) (u2 := .slice g2 n2 d2)
       obtain ⟨s0, s1, s2, _, _, _⟩ := (hx.alloc (.cells #[.int .i64 (n2 : Nat)] 3)).all
       have hrv : Blk ((((w4.setCell ⟨w.heap.size + 1, 0, none⟩ (.bool c)).setCell ⟨w.heap.size + 1, 1, none⟩ (.slice (some ⟨w4.heap.size, 0, none⟩) 1 1)).setCell ⟨w.heap.size + 1, 2, none⟩ (.slice g2 n2 d2)).alloc (.cells #[.int .i64 (n2 : Nat)] 3)) w4.heap.size [(n2 : Int)] := by have := blk_one (((w4.setCell ⟨w.heap.size + 1, 0, none⟩ (.bool c)).setCell ⟨w.heap.size + 1, 1, none⟩ (.slice (some ⟨w4.heap.size, 0, none⟩) 1 1)).setCell ⟨w.heap.size + 1, 2, none⟩ (.slice g2 n2 d2)) (n2 : Int); simpa using this
       refine bodyPost_ret (v := .tuple #[.agg #[.bool c, .slice (some ⟨w4.heap.size, 0, none⟩) 1 1, .slice g2 n2 d2], .int .i64 0]) (by simp [results, Tryz.results140, go_sem, s0, s1, s2]) rfl ?_
       have e2 : ∀ k, At g2 n2 k → k ≠ w.heap.size + 1 := fun k hk => (unhide R2).row.notBox (unhide HX) hk
       have o2 := (((((unhide R2).mono (show w.heap.size ≤ _ by simp; omega)).other (q := ⟨w.heap.size + 1, 0, none⟩) e2 (.bool c)).other (q := ⟨w.heap.size + 1, 1, none⟩) e2 (.slice (some ⟨w4.heap.size, 0, none⟩) 1 1)).other (q := ⟨w.heap.size + 1, 2, none⟩) e2 (.slice g2 n2 d2)).alloc (.cells #[.int .i64 (n2 : Nat)] 3)
       exact ⟨_, _, _, _, _, _, rfl, hrv.own rfl (by omega) (by omega), o2, fun k k1 k2 => by have e1 := at_eq k1; have e3 := (unhide R2).row.hi k2; omega, Below.alloc ((((unhide HBX).setCell (by simp <;> omega) _).setCell (by simp <;> omega) _).setCell (by simp <;> omega) _) (by simp; omega) _⟩)

end Go.Proofs.YtgjpchnkodnieaaGreatDoor
namespace Go.Proofs
open Go.Shelf
def Tryz.growI_ren : Go.Shelf.Ren := ⟨fun | 4 => 185 | n => n, fun | 22 => 23 | 25 => 3 | 3 => 3 | 4 => 4 | 9 => 9 | 20 => 20 | 0 => 0 | n => n, fun | n => n⟩
theorem Tryz.growI : Go.Proofs.Lays8.n4 Tryz.prog Tryz.growI_ren := {
  mixed := by kernel_rfl
  f4 := ⟨Tryz.f185.name, by decide, Tryz.func185.trans (congrArg some (by kernel_rfl))⟩
  t0 := Tryz.underlying0
  a0 := Tryz.isAgg0
  z0 := Tryz.sizeOf0
  v0 := Tryz.zeroValue0
  t3 := Tryz.underlying3
  a3 := Tryz.isAgg3
  z3 := Tryz.sizeOf3
  v3 := Tryz.zeroValue3
  t4 := Tryz.underlying4
  a4 := Tryz.isAgg4
  z4 := Tryz.sizeOf4
  v4 := Tryz.zeroValue4
  t9 := Tryz.underlying9
  a9 := Tryz.isAgg9
  z9 := Tryz.sizeOf9
  v9 := Tryz.zeroValue9
  t20 := Tryz.underlying20
  a20 := Tryz.isAgg20
  z20 := Tryz.sizeOf20
  v20 := Tryz.zeroValue20
  t22 := Tryz.underlying23
  a22 := Tryz.isAgg23
  z22 := Tryz.sizeOf23
  v22 := Tryz.zeroValue23 }
end Go.Proofs
namespace Go.Proofs.YtgjpchnkodnieaaGreatDoor
open Go.RowKit Go.Shelf

theorem zero_cells_len (n : Nat) : (Builtin.zeroCells (Value.int .i64 0).cells n).size = n := by
  simp [Builtin.zeroCells, Value.cells]

theorem Grow_own (n : Nat) (w : World) (hn : n ≤ 17592186044416) : Calls Tryz.prog 185 #[.slice none 0 0, .int .i64 (n : Nat)] w fun e w' => ∃ v, e = .returned v ∧ w'.ownsRow w.heap.size 3 1 v 0 [] ∧ Below w.heap.size w w' := by
  obtain ⟨i0, hi, hz0, hz1, hz2⟩ := info_parts info_int
  by_cases h0 : n = 0
  · subst h0
    refine (Any8.slices_Grow_room Tryz.growI none 0 0 0 w (Nat.le_refl _) (by omega) (by omega) (by omega)).mono ?_
    rintro e w' ⟨rfl, rfl⟩
    exact ⟨_, rfl, ⟨rfl, .inl ⟨rfl, rfl⟩⟩, Below.refl _ _⟩
  · refine (Any8.slices_Grow_grow Tryz.growI i0 (.int .i64 0) hi hz0 (by rw [hz1]; omega) none 0 0 n [] w (Nat.le_refl _) (by omega) (by rw [hz2]; omega) (by omega) (by simp) (fun _ => rfl) (fun a ha => by cases ha)).mono ?_
    rintro e w' ⟨rfl, rfl⟩
    have hge := grownCap_ge w (0 + n) 0 (Tryz.growI_ren.t 25)
    have hle := grownCap_le_maxLen w (0 + n) 0 (Tryz.growI_ren.t 25) (by unfold maxLen; omega)
    refine ⟨_, rfl, ⟨rfl, .inr ⟨w.heap.size, _, _, rfl, Nat.le_refl _, by exact heap_alloc_last w.drew _, Nat.zero_le _, hle, ?_, rfl⟩⟩, (Below.refl _ _).drew.alloc (by simp) _⟩
    simp only [Nat.zero_add] at hge
    simp only [Array.size_append, zero_cells_len]
    simp
    omega

theorem below_append0 {w w1 : World} {base n : Nat} {v : Value} {xs : List Value} (hown : w.ownsRow base 3 1 v n xs) (hb : base ≤ w.heap.size) (hg : w.grownBy w1 v.ownBlock) : Below base w w1 :=
  (Below.refl _ _).grown hg hb (by
    intro k hk
    rcases hown.2 with ⟨rfl, _⟩ | ⟨g, cap, cur, rfl, hbg, _⟩
    · cases hk
    · cases hk; exact hbg)

set_option maxRecDepth 20000 in
set_option maxHeartbeats 2000000 in
theorem Concat2_any (bs : Nat) (a b : Addr) (n m ca cb : Nat) (xs ys : List Int) (w : World) (h0 : w.cell? ⟨bs, 0, none⟩ = some (.slice (some a) n ca)) (h1 : w.cell? ⟨bs, 1, none⟩ = some (.slice (some b) m cb)) (hx : Row w (some a) n xs) (hy : Row w (some b) m ys) (hn : n ≤ 1000000) (hm : m ≤ 1000000) :
    Calls Tryz.prog 113 #[.slice (some ⟨bs, 0, none⟩) 2 2] w fun e w' => ∃ a' cap', e = .returned (.slice a' (n + m) cap') ∧ Own w' w.heap.size a' (n + m) (xs ++ ys) ∧ Below w.heap.size w w' := by
  have hl1 := hx.len
  have hl2 := hy.len
  have HX := hide hx
  have HY := hide hy
  clear hx hy
  have hbs := World.block_lt_of_cell? _ _ h0
  obtain ⟨i0, hi, hz0, hz1, hz2⟩ := info_parts info_int
  have hs1 : (n : Int) + (m : Int) = ((n + m : Nat) : Int) := by simp
  obtain ⟨s, hs⟩ : ∃ s, s = n + m := ⟨_, rfl⟩
  rw [← hs] at hs1
  have HS := hide hs
  have hsb : s ≤ 2000000 := by omega
  clear hs
  go_enter Tryz.func113, Tryz.ntmps113
  go_wp2
  refine wp_loop_rounds 3 ?_
  rw [rounds_succ]
  go_wp2
  rw [rounds_succ]
  go_wp2
  rw [rounds_succ]
  go_wp2_with fail
  refine (Grow_own s w (by omega)).mono ?_
  rintro e w1 ⟨v, rfl, hown, hb1⟩
  have k0 := (hb1.cell (p := ⟨bs, 0, none⟩) hbs).trans h0
  have k1 := (hb1.cell (p := ⟨bs, 1, none⟩) hbs).trans h1
  have hsz := hb1.size
  have HB1 := hide hb1
  have HC1 := hide h1
  clear hb1 h0 h1
  go_wp2
  refine wp_loop_rounds 3 ?_
  rw [rounds_succ]
  obtain ⟨av, cv, rfl⟩ := owns_slice hown
  go_wp2_with (at_builtin; refine wpList_append_own _ rfl _ _ 23 rfl w.heap.size 3 i0 (.int .i64 0) 1 8 Tryz.underlying23 hi hz0 hz1 hz2 rfl (by decide) _ _ _ rfl hown a n ca (xs.map (Value.int .i64)) rfl (by simpa using hl1) (cells_ints ((unhide HX).below (Nat.le_refl _) (unhide HB1))) (one_ints xs) (by unfold maxLen; omega) (by omega) (by omega) ?_; intro v1 w2 hown1 hgrow1 hnil1; clear hnil1; have HB2 := hide ((unhide HB1).trans (below_append0 hown hsz hgrow1)); have hsz2 := (unhide HB2).size; clear hgrow1 hown k0 k1; have k1 := ((unhide HB2).cell (p := ⟨bs, 1, none⟩) hbs).trans (unhide HC1); obtain ⟨av1, cv1, rfl⟩ := owns_slice hown1)
  have hown1' : w2.ownsRow w.heap.size 3 1 (.slice av1 n cv1) n (xs.map (Value.int .i64)) := by simpa using hown1
  clear hown1
  rw [rounds_succ]
  go_wp2_with (at_builtin; refine wpList_append_own _ rfl _ _ 23 rfl w.heap.size 3 i0 (.int .i64 0) 1 8 Tryz.underlying23 hi hz0 hz1 hz2 rfl (by decide) _ _ _ rfl hown1' b m cb (ys.map (Value.int .i64)) rfl (by simpa using hl2) (cells_ints ((unhide HY).below (Nat.le_refl _) (unhide HB2))) (one_ints ys) (by unfold maxLen; omega) (by omega) (by omega) ?_; intro v2 w3 hown2 hgrow2 hnil2; clear hnil2; have HB3 := hide ((unhide HB2).trans (below_append0 hown1' hsz2 hgrow2)); clear hgrow2 hown1' k1; obtain ⟨av2, cv2, rfl⟩ := owns_slice hown2)
  rw [rounds_succ]
  go_wp2
  go_ret
  obtain ⟨a', cap', he, hO⟩ := Own.of_owns (zs := xs ++ ys) (by rw [List.map_append]; exact hown2) (by omega)
  cases he
  exact ⟨_, _, rfl, hO, unhide HB3⟩

end Go.Proofs.YtgjpchnkodnieaaGreatDoor
namespace Go.Proofs.YtgjpchnkodnieaaGreatDoor
open Go.RowKit Go.Shelf

theorem Row.takeS {w : World} {b off n k : Nat} {zs : List Int} (h : Row w (some ⟨b, off, none⟩) n zs) (hk : k ≤ n) : Row w (some ⟨b, off, none⟩) k (zs.take k) := by
  have hl := h.len
  refine ⟨by simp; omega, by have := h.small; omega, ?_⟩
  rcases h.at_ with h0 | ⟨b', o', e, hlt, hc⟩
  · exact .inl (by omega)
  · cases e
    refine .inr ⟨b, off, rfl, hlt, fun i hi => ?_⟩
    rw [hc i (by omega)]
    simp [List.getD_eq_getElem?_getD, hi]

theorem Row.dropS {w : World} {b off n k : Nat} {zs : List Int} (h : Row w (some ⟨b, off, none⟩) n zs) (hk : k ≤ n) : Row w (some ⟨b, off + k, none⟩) (n - k) (zs.drop k) := by
  have hl := h.len
  refine ⟨by simp; omega, by have := h.small; omega, ?_⟩
  rcases h.at_ with h0 | ⟨b', o', e, hlt, hc⟩
  · exact .inl (by omega)
  · cases e
    refine .inr ⟨b, off + k, rfl, hlt, fun i hi => ?_⟩
    rw [show off + k + i = off + (k + i) by omega, hc (k + i) (by omega)]
    simp [List.getD_eq_getElem?_getD, List.getElem?_drop]

theorem Row.zeroS {w : World} {a : Option Addr} {zs : List Int} (h : zs = []) : Row w a 0 zs := ⟨by rw [h]; rfl, by omega, .inl rfl⟩

theorem Row.zeroS' {w : World} {a : Option Addr} {zs : List Int} {n : Nat} (h : zs.length = n + 1) : Row w a (n + 1 - (n + 1)) (zs.drop (n + 1)) := by
  rw [Nat.sub_self]; exact Row.zeroS (List.drop_of_length_le (by omega))

theorem cellsOf_eq (a : Option Addr) (n cap : Nat) (sh : List Int) (w : World) (h : Row w a n sh) (hin : ShapeIn sh) (r : Int) (hr : Hid (prodAll sh = r)) : Calls Tryz.prog 116 #[.slice a n cap] w fun e w' => e = .returned (.int .i64 r) ∧ w' = w := by
  rw [← unhide hr]
  exact cellsOf_any a n cap sh w h (fun k => (hin.take k).bd)

/-- What axisOf answers. -/
def AxisOk (w : World) (B N A : Int) (others : List Int) (e : Ending) (w' : World) : Prop :=
  ∃ oa ol oc, e = .returned (.agg #[.int .i64 B, .int .i64 N, .int .i64 A, .slice oa ol oc]) ∧ Own w' (w.heap.size + 1) oa ol others ∧ Below w.heap.size w w'

end Go.Proofs.YtgjpchnkodnieaaGreatDoor
namespace Go.Proofs.YtgjpchnkodnieaaGreatDoor
open Go.RowKit Go.Shelf

/-- The end of axisOf: the answer's four fields are stored. -/
theorem axis_end {w wD : World} {B N A : Int} {oa : Option Addr} {ol oc : Nat} {zs : List Int} {x0 x1 x2 x3 : Value} (hO : Own wD (w.heap.size + 1) oa ol zs) (hb : Below w.heap.size w wD) :
    AxisOk w B N A zs (.returned (.agg #[.int .i64 B, .int .i64 N, .int .i64 A, .slice oa ol oc])) ((((wD.setCell ⟨w.heap.size, 0, none⟩ x0).setCell ⟨w.heap.size, 1, none⟩ x1).setCell ⟨w.heap.size, 2, none⟩ x2).setCell ⟨w.heap.size, 3, none⟩ x3) := by
  have hk : ∀ k, At oa ol k → k ≠ w.heap.size := fun k hk => by have := hO.low hk; omega
  exact ⟨oa, ol, oc, rfl, (((hO.other hk _).other hk _).other hk _).other hk _, (((hb.setCell (Nat.le_refl _) _).setCell (Nat.le_refl _) _).setCell (Nat.le_refl _) _).setCell (Nat.le_refl _) _⟩

theorem axis_box {w W0 : World} (h : W0.heap[w.heap.size]? = some (.cells #[.int .i64 0, .int .i64 0, .int .i64 0, .slice none 0 0] 133 (0, 0))) (wx : World) (hx : Below W0.heap.size W0 wx) :
    w.heap.size < wx.heap.size ∧ (wx.cell? ⟨w.heap.size, 0, none⟩ = some (.int .i64 0) ∧ wx.cell? ⟨w.heap.size, 1, none⟩ = some (.int .i64 0) ∧ wx.cell? ⟨w.heap.size, 2, none⟩ = some (.int .i64 0) ∧ wx.cell? ⟨w.heap.size, 3, none⟩ = some (.slice none 0 0)) ∧ wx.frozen? ⟨w.heap.size, 0, none⟩ = false ∧ wx.frozen? ⟨w.heap.size, 1, none⟩ = false ∧ wx.frozen? ⟨w.heap.size, 2, none⟩ = false ∧ wx.frozen? ⟨w.heap.size, 3, none⟩ = false := by
  have hAB := (hx.block _ (lt_of_block h)).trans h
  exact ⟨lt_of_block hAB, ⟨cell_of_row _ _ 0 _ _ _ hAB, cell_of_row _ _ 1 _ _ _ hAB, cell_of_row _ _ 2 _ _ _ hAB, cell_of_row _ _ 3 _ _ _ hAB⟩, frozen_of_row _ _ 0 _ _ hAB, frozen_of_row _ _ 1 _ _ hAB, frozen_of_row _ _ 2 _ _ hAB, frozen_of_row _ _ 3 _ _ hAB⟩

set_option maxRecDepth 20000 in
set_option maxHeartbeats 8000000 in
theorem axisOf_pos (fl : Bool) (b off n c bg : Nat) (sh : List Int) (B N A : Int) (w : World) (h : Row w (some ⟨b, off, none⟩) (n + 1) sh) (hc : n + 1 ≤ c) (hin : ShapeIn sh) (hl5 : n + 1 ≤ 5) (hbg : (fl = true ∧ bg = 0) ∨ (fl = false ∧ bg = n)) (hB : prodAll (sh.take bg) = B) (hN : prodAll ((sh.drop bg).take 1) = N) (hA : prodAll (sh.drop (bg + 1)) = A) :
    Calls Tryz.prog 112 #[.slice (some ⟨b, off, none⟩) (n + 1) c, .bool fl] w (AxisOk w B N A (sh.take bg ++ sh.drop (bg + 1))) := by
  have hs := h.small
  have hbn : bg ≤ n := by omega
  have HIF : Hid (ShapeIn (sh.take bg)) := hin.take _
  have HIM : Hid (ShapeIn ((sh.drop bg).take 1)) := (hin.drop _).take _
  have HIB : Hid (ShapeIn (sh.drop (bg + 1))) := hin.drop _
  have HRF : Hid (Row w (some ⟨b, off, none⟩) bg (sh.take bg)) := h.takeS (by omega)
  have HRM : Hid (Row w (some ⟨b, off + bg, none⟩) 1 ((sh.drop bg).take 1)) := (h.dropS (by omega)).takeS (by omega)
  have HRD : Hid (Row w (some ⟨b, off + (bg + 1), none⟩) (n + 1 - (bg + 1)) (sh.drop (bg + 1))) := h.dropS (by omega)
  have HPB := hide hB
  have HPN := hide hN
  have HPA := hide hA
  have HLN := hide h.len
  clear h hB hN hA
  have hf5 : bg ≤ 1000000 := by omega
  have hk5 : n + 1 - (bg + 1) ≤ 1000000 := by omega
  go_enter Tryz.func112, Tryz.ntmps112
  go_upto_if 15 with fail
  go_cut [5, 6] (fun s5 s6 wr => s5 = .int .i64 (bg : Nat) ∧ s6 = .int .i64 ((bg : Int) + 1) ∧ wr = (w.alloc (.cells #[.int .i64 0, .int .i64 0, .int .i64 0, .slice none 0 0] 133)))
  case first =>
    rcases hbg with ⟨rfl, rfl⟩ | ⟨rfl, rfl⟩
    · go_wp2
      all_goals (go_meet; case rel => exact ⟨rfl, by go_num, rfl⟩)
    · go_wp2
      all_goals (go_meet; case rel => exact ⟨rfl, by go_num, rfl⟩)
  case rest =>
    obtain ⟨rfl, rfl, rfl⟩ := hcut
    clear hbg
    go_upto_region 4 with fail
    go_cut [7, 8] (fun s7 s8 wr => s7 = .slice (some ⟨b, off, none⟩) bg c ∧ (∃ pb cb, s8 = .slice (some pb) (n + 1 - (bg + 1)) cb ∧ Hid (Row w (some pb) (n + 1 - (bg + 1)) (sh.drop (bg + 1)))) ∧ ∃ nq, wr = ((w.alloc (.cells #[.int .i64 0, .int .i64 0, .int .i64 0, .slice none 0 0] 133)).drewN nq))
    case first =>
      by_cases hc1 : c = bg + 1
      · subst hc1
        have hbn' : n = bg := by omega
        subst hbn'
        go_quiet (fail)
        go_wp2
        all_goals (go_meet; case rel => exact ⟨rfl, ⟨⟨b, off, none⟩, 0, by simp, Row.zeroS' (unhide HLN)⟩, _, rfl⟩)
      · have hc2 : bg + 1 < c := by omega
        clear hc1
        go_quiet (fail)
        go_wp2
        all_goals (go_meet; case rel => exact ⟨rfl, ⟨⟨b, off + (bg + 1), none⟩, c - (bg + 1), by simp, HRD⟩, _, rfl⟩)
    case rest =>
      obtain ⟨rfl, ⟨pb, cb, rfl, HRB⟩, nq, rfl⟩ := hcut
      clear HRD
      obtain ⟨kn, hkn⟩ : ∃ kn, n + 1 - (bg + 1) = kn := ⟨_, rfl⟩
      rw [hkn] at hk5 HRB ⊢
      have hcb : bg + 1 ≤ c := by omega
      have hcb2 : bg < c := by omega
      clear hkn
      go_upto_region 5 with fail
      obtain ⟨W0, hW0⟩ : ∃ W0, W0 = ((w.alloc (.cells #[.int .i64 0, .int .i64 0, .int .i64 0, .slice none 0 0] 133)).drewN nq) := ⟨_, rfl⟩
      have hK0 : Below w.heap.size w W0 := by rw [hW0]; exact Below.drewN ((Below.refl _ _).alloc (Nat.le_refl _) _) _
      have hz0 : W0.heap.size = w.heap.size + 1 := by rw [hW0]; simp
      have AB := hide (axis_box (w := w) (W0 := W0) (by rw [hW0]; exact heap_alloc_last w _))
      rw [← hW0]
      clear hW0
      go_region_held (fun wx => Below w.heap.size W0 wx) (first | (repeat (first | exact hKD.mono (by omega) | exact Below.refl _ _ | refine Below.drew ?_ | refine Below.setCell ?_ (by first | omega | (simp <;> omega)) _ | refine Below.alloc ?_ (by first | omega | (simp <;> omega)) _)))
        (first
        | (go_at_call_of 116 (Value.slice (some ⟨b, off, none⟩) bg c); refine (cellsOf_eq _ _ _ (sh.take bg) _ (by first | exact (unhide HRF).below (Nat.le_refl _) hK0.drew | exact (unhide HRF).below (Nat.le_refl _) (hK0.alloc (by omega) _).drew) (unhide HIF) _ HPB).mono ?_; rintro e wA ⟨rfl, rfl⟩)
        | (go_at_call_of 116 (Value.slice (some ⟨b, off + bg, none⟩) 1 (c - bg)); refine (cellsOf_eq _ _ _ ((sh.drop bg).take 1) _ (by first | exact (unhide HRM).below (Nat.le_refl _) hK0.drew | exact (unhide HRM).below (Nat.le_refl _) (hK0.alloc (by omega) _).drew) (unhide HIM) _ HPN).mono ?_; rintro e wA ⟨rfl, rfl⟩)
        | (go_at_call 116; refine (cellsOf_eq _ _ _ (sh.drop (bg + 1)) _ (by first | exact (unhide HRB).below (Nat.le_refl _) hK0.drew | exact (unhide HRB).below (Nat.le_refl _) (hK0.alloc (by omega) _).drew) (unhide HIB) _ HPA).mono ?_; rintro e wA ⟨rfl, rfl⟩)
        | (go_at_call 113; rw [← hz0]; refine (Concat2_any W0.heap.size _ _ _ _ _ _ (sh.take bg) (sh.drop (bg + 1)) _ (cell_of_row _ _ 0 _ _ (0, 0) (heap_alloc_last W0 _)) (cell_of_row _ _ 1 _ _ (0, 0) (heap_alloc_last W0 _)) ((unhide HRF).below (Nat.le_refl _) (hK0.alloc (by omega) _).drew) ((unhide HRB).below (Nat.le_refl _) (hK0.alloc (by omega) _).drew) hf5 hk5).mono ?_; rintro e wD ⟨oa, oc, rfl, hO, hbD⟩; have hKD : Below W0.heap.size W0 wD := ((Below.refl _ _).alloc (Nat.le_refl _) _).drew.trans (hbD.mono (by simp)); have HO := hide (hO.mono (B' := w.heap.size + 1) (by simp; omega)); obtain ⟨hwl, ⟨q0, q1, q2, q3⟩, f0, f1, f2, f3⟩ := unhide AB _ hKD; clear hbD hO))
      all_goals go_wp2
      all_goals refine bodyPost_ret (v := .agg #[.int .i64 B, .int .i64 N, .int .i64 A, .slice oa _ oc]) (by simp [results, Tryz.results112, go_sem, q0, q1, q2, q3]; try rfl) rfl ?_
      all_goals exact axis_end (unhide HO) (hK0.trans (hKD.mono (by omega)))

end Go.Proofs.YtgjpchnkodnieaaGreatDoor
