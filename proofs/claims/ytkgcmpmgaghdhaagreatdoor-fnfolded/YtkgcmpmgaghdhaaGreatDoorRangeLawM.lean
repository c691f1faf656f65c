import Derived.Test.YtkgcmpmgaghdhaaGreatDoorMFit0
import Derived.RangeFuncNested
import Derived.RangeFuncLeaves
namespace Go.Proofs.YtkgcmpmgaghdhaaGreatDoor
open Go.RowKit

/-- A function that hands out N rounds, each with its number and a value of which H says what lies there, and that keeps cells of its own from one round to the next. T: the blocks that a round may change. -/
def SeqCells (m : Nat) (P : Program) (g : Nat) (lb : Array Value) (N : Nat) (H : Nat → Value → World → Prop) (T : Nat → Prop) (w0 : World) : Prop :=
  ∀ (l : Nat) (J : Nat → World → Prop) (W : World), Below w0.heap.size w0 W → w0.heap.size + 2 ≤ W.heap.size → (∀ k, T k → k < W.heap.size) → (∀ k A B, J k A → Below W.heap.size A B → J k B) →
    (∀ k v W1, k < N → J k W1 → H k v W1 → YieldAt Fence.wide (m - 1) P l #[.int .i64 (k : Nat), v] W1 fun e W' => e = .returned (.bool true) ∧ J (k + 1) W' ∧ But T W1 W') →
    J 0 W → CallsIn Fence.wide m P g (#[.func (.yield l) #[] #[]] ++ lb) W fun e W' => (∃ v, e = .returned v) ∧ J N W'

/-- How a round's body is left: off its end, with what it wrote in S alone. -/
def roundEnd (S : Nat → Prop) (I : World → Prop) (W : World) : Exit → Act → World → Prop
  | .normal, _, W' => But S W W' ∧ I W'
  | _, _, _ => False

theorem But.putObj {S : Nat → Prop} (W : World) {l : Nat} (hl : S l) (o : Obj) : But S W (W.putObj l o) :=
  ⟨rfl, rfl, rfl, by simp, fun k _ hn => World.putObj_heap_other (fun e => hn (e ▸ hl))⟩

theorem below_putObj {B : Nat} (W : World) {l : Nat} (hl : B ≤ l) (o : Obj) : Below B W (W.putObj l o) :=
  ⟨rfl, rfl, rfl, by simp, fun k hk => World.putObj_heap_other (by omega)⟩

/-- A range over such a function whose body never leaves it. -/
theorem range_cells {P : Program} {m N : Nat} {g : Operand} {ps : Array Tmp} {assign body : Code} {Q : Exit → Act → World → Prop} {a : Act} {w : World}
    {gf : Nat} {lb : Array Value} (hg : a.eval g = .func (.func gf) #[] lb) (eg : ∀ args w, (callFunc gf args).run P w = .ok (.enter gf args) w) (hps : ps.size = 2)
    {H : Nat → Value → World → Prop} (S : Nat → Prop) (hS : ∀ k, S k → k < w.heap.size) (hseq : SeqCells (m - 1) P gf lb N H (fun k => S k ∨ k = w.heap.size + 1) w)
    (hH : ∀ k v A o, H k v A → w.heap.size + 1 < A.heap.size → H k v (A.putObj (w.heap.size + 1) o))
    (I : Nat → World → Prop) (hI : ∀ k A B, I k A → Below w.heap.size A B → I k B) (h0 : I 0 w) (a₁ : Nat → Value → Act)
    (hassign : ∀ (l k : Nat) (v : Value) (W : World) (K : Act → World → Prop), K (a₁ k v) W →
      assign.wpIn (Fence.wide.inRound l) (m - 1 - 1) P (Exit.then K (fun _ _ _ => False)) { tmps := (ps.zip #[.int .i64 (k : Nat), v]).foldl (fun t (p, v) => t.setIfInBounds p v) a.tmps, defers := [] } W)
    (hbody : ∀ (l k : Nat) (v : Value) (W : World), k < N → I k W → H k v W → w.heap.size ≤ W.heap.size → body.wpIn (Fence.wide.inRound l) (m - 1 - 1) P (roundEnd S (I (k + 1)) W) (a₁ k v) W)
    (hdone : ∀ (D : Nat) (W : World), w.heap.size ≤ D → I N W → W.heap[D]? = some (.deferred (some [])) → Q .normal { a with defers := { target := .collected D, args := #[] } :: a.defers } W) :
    (Code.rangeFunc g ps assign body).wpIn Fence.wide m P Q a w := by
  refine wpIn_rangeFunc ?_
  intro fn hfn
  obtain ⟨rec, hrec⟩ : ∃ rec : LoopState → Loop, rec = fun st => { state := st, pending := none, fn, tmps := a.tmps, params := ps, assign, body, defers := w.heap.size } := ⟨_, rfl⟩
  obtain ⟨W1, hW1⟩ : ∃ W1, (w.alloc (.deferred (some []))).alloc (.loop (rec .ready)) = W1 := ⟨_, rfl⟩
  have hL1 : W1.heap[w.heap.size + 1]? = some (.loop (rec .ready)) := by
    rw [← hW1]; have := World.alloc_heap_new (w.alloc (.deferred (some []))) (.loop (rec .ready)); rwa [World.size_alloc] at this
  have hK1 : W1.heap[w.heap.size]? = some (.deferred (some [])) := by rw [← hW1]; exact (Below.heap_alloc _ _ _ (by simp)).trans (World.alloc_heap_new w _)
  have hb1 : Below w.heap.size w W1 := by rw [← hW1]; exact ((Below.refl _ w).alloc (Nat.le_refl _) _).alloc (by simp) _
  have hz1 : W1.heap.size = w.heap.size + 2 := by rw [← hW1]; simp
  refine ⟨w.heap.size + 1, [{ target := .collected w.heap.size, args := #[] }], W1, { target := .fn (.func gf) lb, args := #[.func (.yield (w.heap.size + 1)) #[] #[]] }, W1, gf,
    #[.func (.yield (w.heap.size + 1)) #[] #[]] ++ lb, W1, ?_, ?_, ?_, ?_, ?_, ?_⟩
  · rw [← hW1, hrec]; exact run_enterLoop_outer _ _ _ _ _
  · simp only [resolve, hg]; simp [go_sem]
  · intro _ _; exact trivial
  · simp [invoke, go_sem, eg]
  · intro h; simp [Fence.wide] at h
  · refine (hseq (w.heap.size + 1) (fun k W => I k W ∧ W.heap[w.heap.size + 1]? = some (.loop (rec .ready)) ∧ W.heap[w.heap.size]? = some (.deferred (some []))) W1 hb1 (by omega)
      (by rintro k (h | rfl); exact Nat.lt_of_lt_of_le (hS k h) (by omega); omega) ?_ ?_ ⟨hI _ _ _ h0 hb1, hL1, hK1⟩).mono ?_
    · rintro k A B ⟨i, l, d⟩ hb
      rw [hz1] at hb
      exact ⟨hI _ _ _ i (hb.mono (by omega)), (hb.block _ (by omega)).trans l, (hb.block _ (by omega)).trans d⟩
    · rintro k v W hk ⟨hi, hl, hd⟩ hh
      have hlt : w.heap.size + 1 < W.heap.size := (Array.getElem?_eq_some_iff.1 hl).1
      have hy := run_yield (P := P) (args := #[.int .i64 (k : Nat), v]) hl (by rw [hrec]; simp [hps])
      rw [hrec] at hy
      refine ⟨fn, _, assign, body, hy, roundIn_of_wpIn hfn (hassign _ k v W _ ⟨_, run_beginRound hl (by rw [hrec]), ?_⟩)⟩
      refine wpIn_mono (hbody _ k v _ hk (hI _ _ _ hi (below_putObj W (by omega) _)) (hH _ _ _ _ hh hlt) (by simp; omega)) ?_
      rintro e a3 W3 hp
      cases e with
      | normal =>
        obtain ⟨hbut, hi3⟩ := hp
        have hne : ¬ S (w.heap.size + 1) := fun h => by have := hS _ h; omega
        have hnd : ¬ S w.heap.size := fun h => by have := hS _ h; omega
        have hl3 := (hbut.block (w.heap.size + 1) (by simpa using hlt) hne).trans (World.putObj_heap_same hlt)
        have hd3 := (hbut.block w.heap.size (by simp; omega) hnd).trans ((World.putObj_heap_other (by omega)).trans hd)
        have hr := run_endRound (P := P) none hl3
        have hlt3 : w.heap.size + 1 < W3.heap.size := (Array.getElem?_eq_some_iff.1 hl3).1
        refine ⟨_, _, hr, rfl, ⟨hI _ _ _ hi3 (below_putObj W3 (by omega) _), ?_, (World.putObj_heap_other (by omega)).trans hd3⟩, ?_⟩
        · rw [World.putObj_heap_same hlt3, hrec]; rfl
        · exact (((But.putObj (S := fun k => S k ∨ k = w.heap.size + 1) W (.inr rfl) _).trans (hbut.mono (T := fun k => S k ∨ k = w.heap.size + 1) (fun k hk => Or.inl hk))).trans (But.putObj (S := fun k => S k ∨ k = w.heap.size + 1) W3 (.inr rfl) _)).mono (by rintro k ((h | h) | h) <;> exact h)
      | ret => exact hp.elim
      | exit id => exact hp.elim
      | goto t => exact hp.elim
      | panic ch => exact hp.elim
      | outgrown => exact hp.elim
    · rintro e W2 ⟨⟨v, rfl⟩, hi, hl, hd⟩
      refine ⟨none, _, by have := run_endLoop (P := P) hl (by rw [hrec]; simp); rw [hrec] at this; exact this, hdone w.heap.size _ (Nat.le_refl _) (hI _ _ _ hi (below_putObj W2 (by omega) _)) ((World.putObj_heap_other (by omega)).trans hd)⟩

end Go.Proofs.YtkgcmpmgaghdhaaGreatDoor
