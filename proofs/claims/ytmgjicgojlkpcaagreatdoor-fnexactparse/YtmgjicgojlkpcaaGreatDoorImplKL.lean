import Derived.Test.YtmgjicgojlkpcaaGreatDoorImplEnd
import Derived.Test.YtmgjicgojlkpcaaGreatDoorImplFnA
namespace Go.Proofs.YtmgjicgojlkpcaaGreatDoor
open Go.RowKit

section
variable {Z w w0 w1 : World} {p i j : Nat} {nd nd0 nd1 v : Value} {zs : List Int} {xs ys : List NodeC} {bx : List Nat} {ls : List (List NodeD)} {ta : Option Addr} {tn tc bytes : Nat} {ts : List Tok}

/-- A list of its own, made anew. -/
theorem KT.list (h : KT Z p ta tn tc bytes w0 nd0 xs bx ls i w nd v zs) (us : List Int) (hus : us.length ≤ 100) : KT Z p ta tn tc bytes w0 nd0 xs bx ls i (w.alloc (.cells (us.map (Value.int .i64)).toArray 3)) nd (.slice (some ⟨w.heap.size, 0, none⟩) us.length us.length) us := by
  have hb : Below w.heap.size w (w.alloc (.cells (us.map (Value.int .i64)).toArray 3)) := (Below.refl _ _).alloc (Nat.le_refl _) _
  obtain ⟨ys, hm, hd, ho, hf, hx⟩ := h
  have hblk : (w.alloc (.cells (us.map (Value.int .i64)).toArray 3)).heap[w.heap.size]? = some (.cells (us.map (Value.int .i64)).toArray 3 (0, 0)) := by
    show (w.heap.push _)[w.heap.size]? = _
    simp
  refine ⟨ys, hm.below hb, hd, ?_, fun b hb' => ?_, fun k hk => ?_⟩
  · unfold OwnI
    refine ⟨by simp, .inr ⟨w.heap.size, us.length, _, rfl, hm.ps.low.size, hblk, Nat.le_refl _, by unfold maxLen; omega, by simp, ?_⟩⟩
    rw [Nat.mul_one, List.toList_toArray]
    exact List.take_of_length_le (by simp)
  · have e : w.heap.size = b := by simpa [Value.ownBlock] using hb'
    subst e
    exact ⟨hm.but.size, fun hc => by have := (hm.ps.blkLt hc).1; omega⟩
  · obtain ⟨a1, a2, a3, a4, a5, a6, a7⟩ := hx k hk
    refine ⟨a1, a2, by simp; omega, a4, a5, a6, fun e => ?_⟩
    have e' : w.heap.size = k := by simpa [Value.ownBlock] using e
    omega

/-- A reader that goes on behind a tree that was put. -/
def FromI (Z : World) (p : Nat) (ta : Option Addr) (tn tc : Nat) (ts : List Tok) (bytes : Nat) (q : Nat) (t : List NodeD) (r : Res) : Prop :=
  ∀ w0 nd0 xs w nd, KT Z p ta tn tc bytes w0 nd0 xs [] [t] q w nd nilL [] → xs.length + (rowT [t]).length + 4 * (5000 - q) ≤ 100000 → Calls Tryz.prog 197 #[.pointer (some ⟨p, 0, none⟩), .int .i64 (((xs.length + (rowT [t]).length : Nat) : Int) - 1)] w (GaveI Z p ta tn tc ts bytes w0 nd0 xs r)

theorem KT.tailR {f : Nat} {args : Array Value} {r : Res} (hR : ReadI Z p ta tn tc ts bytes f args i r) (h : KT Z p ta tn tc bytes w0 nd0 xs bx [] i w nd v zs) (hroom : xs.length + 0 + 4 * (5000 - i) ≤ 100000) : Calls Tryz.prog f args w fun e w' => ∃ z v, e = .returned (.tuple #[.int .i64 z, v]) ∧ GaveI Z p ta tn tc ts bytes w0 nd0 xs r (.returned (.tuple #[.int .i64 z, v])) w' := by
  obtain ⟨ys, hm, hd, _⟩ := h
  have hy : ys = [] := List.map_eq_nil_iff.1 hd
  subst hy
  exact ReadI.at hR hm hroom

end
end Go.Proofs.YtmgjicgojlkpcaaGreatDoor
