import Derived.Test.YtlnangnimbgpoaaTakeMath
import Derived.Test.YtlnangnimbgpoaaSpecWindow
import Derived.Test.YtlnangnimbgpoaaSpecCounted
import Derived.Test.YtlnangnimbgpoaaSpecShapeOk
import Derived.Test.YtlnangnimbgpoaaSpecNone
namespace Go.Proofs.Ytlnangnimbgpoaa
open Go.RowKit

theorem counted_five {c : Bool} {n1 n2 m1 : Nat} (h : countedCode c n1 n2 m1 = 0) (h5 : m1 ≤ 5) : n2 ≤ 5 := by
  unfold countedCode at h
  split at h
  · rename_i h1; exact absurd h h1
  · split at h
    · split at h
      · cases h
      · omega
    · split at h
      · cases h
      · omega

set_option maxHeartbeats 400000 in
theorem l5Abs_any (x y : Int) (w : World) (hx : -1000000000000000 ≤ x ∧ x ≤ 1000000000000000) (hy : absI x = y) : Calls Try.prog 71 #[.int .i64 x] w fun e w' => e = .returned (.int .i64 y) ∧ w' = w := by
  obtain ⟨h1, h2⟩ := hx
  subst hy
  by_cases h : x < 0
  · have HE : Hid (absI x = -x) := by show _ = _; unfold absI; rw [if_pos h]
    go_enter Try.func71, Try.ntmps71
    go_wp2
    go_ret
    exact ⟨ret_int (by rw [unhide HE]), rfl⟩
  · have HE : Hid (absI x = x) := by show _ = _; unfold absI; rw [if_neg h]
    go_enter Try.func71, Try.ntmps71
    go_wp2
    go_ret
    exact ⟨ret_int (by rw [unhide HE]), rfl⟩

/-- Two slices of the call's own hold the first numbers of two lists. -/
structure Two (W : World) (ST ZS : List Int) (k1 k2 g1 p1 g2 p2 : Nat) (wr : World) : Prop where
  o1 : wr.ownsRow W.heap.size 3 1 (.slice (some ⟨g1, 0, none⟩) k1 p1) k1 ((ST.take k1).map (Value.int .i64))
  o2 : wr.ownsRow W.heap.size 3 1 (.slice (some ⟨g2, 0, none⟩) k2 p2) k2 ((ZS.take k2).map (Value.int .i64))
  ne : g1 ≠ g2
  low : Below W.heap.size W wr

theorem Two.drew {W wr : World} {ST ZS : List Int} {k1 k2 g1 p1 g2 p2 : Nat} (h : Two W ST ZS k1 k2 g1 p1 g2 p2 wr) : Two W ST ZS k1 k2 g1 p1 g2 p2 wr.drew :=
  ⟨owns_below h.o1 (Nat.le_refl _) (Below.refl _ _).drew, owns_below h.o2 (Nat.le_refl _) (Below.refl _ _).drew, h.ne, h.low.drew⟩

theorem Two.start (W : World) (ST ZS : List Int) : Two W ST ZS 0 0 W.heap.size 0 (W.heap.size + 1) 0 ((W.alloc (.cells #[] 3)).alloc (.cells #[] 3)) := by
  refine ⟨?_, ?_, by omega, ((Below.refl _ _).alloc (Nat.le_refl _) _).alloc (by simp) _⟩
  · exact ((Blk.new W).alloc _).owns (Nat.le_refl _)
  · have := Blk.new (W.alloc (.cells #[] 3))
    have h2 : Blk ((W.alloc (.cells #[] 3)).alloc (.cells #[] 3)) (W.heap.size + 1) [] := by simpa using this
    exact h2.owns (by omega)

theorem Two.push1 {W wr w7 : World} {ST ZS : List Int} {k1 k2 g1 p1 g2 p2 g' p' : Nat} {x : Int} (o : Obj) (h : Two W ST ZS k1 k2 g1 p1 g2 p2 wr)
    (hown : w7.ownsRow W.heap.size 3 1 (.slice (some ⟨g', 0, none⟩) (k1 + 1) p') (k1 + 1) ((ST.take k1).map (Value.int .i64) ++ [.int .i64 x])) (hx : ST.getD k1 0 = x) (hk : k1 < ST.length) (hg : (wr.alloc o).grownBy w7 (Value.ownBlock (.slice (some ⟨g1, 0, none⟩) k1 p1))) (hat : Value.ownBlock (.slice (some ⟨g1, 0, none⟩) k1 p1) = some g' ∨ g' = wr.heap.size + 1) :
    Two W ST ZS (k1 + 1) k2 g' p' g2 p2 w7 := by
  have hg1 : (wr.alloc o).grownBy w7 (some g1) := hg
  refine ⟨?_, owns_grown h.o2 o hg1 (fun e => h.ne e.symm) (Nat.le_refl _), ?_, h.low.trans (below_append o h.o1 h.low.size hg)⟩
  · rw [take_snoc ST k1 hk, hx]; simpa using hown
  · rcases hat with e | e
    · have e' : g1 = g' := by simpa [Value.ownBlock] using e
      rw [← e']; exact h.ne
    · have := owns_lt h.o2 (g := g2) rfl; omega

theorem Two.push2 {W wr w7 : World} {ST ZS : List Int} {k1 k2 g1 p1 g2 p2 g' p' : Nat} {x : Int} (o : Obj) (h : Two W ST ZS k1 k2 g1 p1 g2 p2 wr)
    (hown : w7.ownsRow W.heap.size 3 1 (.slice (some ⟨g', 0, none⟩) (k2 + 1) p') (k2 + 1) ((ZS.take k2).map (Value.int .i64) ++ [.int .i64 x])) (hx : ZS.getD k2 0 = x) (hk : k2 < ZS.length) (hg : (wr.alloc o).grownBy w7 (Value.ownBlock (.slice (some ⟨g2, 0, none⟩) k2 p2))) (hat : Value.ownBlock (.slice (some ⟨g2, 0, none⟩) k2 p2) = some g' ∨ g' = wr.heap.size + 1) :
    Two W ST ZS k1 (k2 + 1) g1 p1 g' p' w7 := by
  have hg1 : (wr.alloc o).grownBy w7 (some g2) := hg
  refine ⟨owns_grown h.o1 o hg1 h.ne (Nat.le_refl _), ?_, ?_, h.low.trans (below_append o h.o2 h.low.size hg)⟩
  · rw [take_snoc ZS k2 hk, hx]; simpa using hown
  · rcases hat with e | e
    · have e' : g2 = g' := by simpa [Value.ownBlock] using e
      rw [← e']; exact h.ne
    · have := owns_lt h.o1 (g := g1) rfl; omega

end Go.Proofs.Ytlnangnimbgpoaa
