import Derived.Test.YtlnangnimbgpoaaRangeWhen
namespace Go.Proofs.Ytlnangnimbgpoaa
open Go.RowKit

/-- A function that hands out N rounds, the k-th with the values ar k, as long as what lay in w0 lies as it lay; it writes nothing. -/
abbrev SeqReads (m : Nat) (P : Program) (g : Nat) (lb : Array Value) (N : Nat) (ar : Nat → Array Value) (w0 : World) : Prop := SeqWhen m P g lb N ar (Below w0.heap.size w0)

/-- How a round's body is left: off its end; whatever holds no cells lies as it lay. -/
def roundEndQ (I : World → Prop) (W : World) : Exit → Act → World → Prop
  | .normal, _, W' => KeepsOthers W W' ∧ I W'
  | _, _, _ => False

theorem roundEndQ_F {B : Nat} {I : World → Prop} {W : World} : ∀ (e : Exit) (a : Act) (W' : World), roundEndQ I W e a W' → roundEndF B I W e a W'
  | .normal, _, _, h => ⟨h.1.from B, h.2⟩
  | .ret, _, _, h => h
  | .exit _, _, _, h => h
  | .goto _, _, _, h => h
  | .panic _, _, _, h => h
  | .outgrown, _, _, h => h

/-- A range over such a function whose body never leaves it. -/
theorem range_reads {P : Program} {m N : Nat} {g : Operand} {ps : Array Tmp} {assign body : Code} {Q : Exit → Act → World → Prop} {a : Act} {w w0 : World}
    {gf : Nat} {lb : Array Value} (hg : a.eval g = .func (.func gf) #[] lb) (eg : ∀ args w, (callFunc gf args).run P w = .ok (.enter gf args) w) {ar : Nat → Array Value} (hps : ∀ k, (ar k).size = ps.size)
    (hseq : SeqReads (m - 1) P gf lb N ar w0)
    (I : Nat → World → Prop) (hI : ∀ k A, I k A → Below w0.heap.size w0 A) (hIp : ∀ k A l o o', I k A → w.heap.size ≤ l → A.heap[l]? = some o → o.isCells = false → I k (A.putObj l o')) (h0 : ∀ o o', I 0 ((w.alloc o).alloc o')) (a₁ : Nat → Act)
    (hassign : ∀ (l k : Nat) (W : World) (K : Act → World → Prop), K (a₁ k) W →
      assign.wpIn (Fence.wide.inRound l) (m - 1 - 1) P (Exit.then K (fun _ _ _ => False)) { tmps := (ps.zip (ar k)).foldl (fun t (p, v) => t.setIfInBounds p v) a.tmps, defers := [] } W)
    (hbody : ∀ (l k : Nat) (W : World), k < N → I k W → body.wpIn (Fence.wide.inRound l) (m - 1 - 1) P (roundEndQ (I (k + 1)) W) (a₁ k) W)
    (hdone : ∀ (D : Nat) (W : World), w.heap.size ≤ D → I N W → W.heap[D]? = some (.deferred (some [])) → Q .normal { a with defers := { target := .collected D, args := #[] } :: a.defers } W) :
    (Code.rangeFunc g ps assign body).wpIn Fence.wide m P Q a w := by
  exact range_when hg eg hps hseq I hI hIp h0 a₁ hassign (fun l k W hk hi => wpIn_mono (hbody l k W hk hi) roundEndQ_F) hdone

end Go.Proofs.Ytlnangnimbgpoaa
