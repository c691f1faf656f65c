import Derived.Test.YtlnangnimbgpoaaLwArrO
import Derived.Test.YtlnangnimbgpoaaMDraw
namespace Go.Proofs.Ytlnangnimbgpoaa
open Go.RowKit

set_option maxHeartbeats 2000000 in
theorem lwArray_src (c : Bool) (s1 s2 : Option Addr) (n1 n2 c1 c2 : Nat) (sh dt : List Int) (w : World) (r1 : Src w s1 n1 c1 sh) (r2 : Src w s2 n2 c2 dt) (h1 : n1 ≤ 20000) (h2 : n2 ≤ 20000) :
    Calls Try.prog 20 #[.agg #[.bool c, .slice s1 n1 c1, .slice s2 n2 c2]] w fun e w' => ∃ g1 g2 d1 d2, e = .returned (.agg #[.bool c, .slice (some ⟨g1, 0, none⟩) n1 d1, .slice (some ⟨g2, 0, none⟩) n2 d2]) ∧ Own w' w.heap.size (some ⟨g1, 0, none⟩) n1 sh ∧ Own w' w.heap.size (some ⟨g2, 0, none⟩) n2 dt ∧ n1 ≤ d1 ∧ n2 ≤ d2 ∧ Below w.heap.size w w' := by
  obtain ⟨W0, hW0⟩ : ∃ W0, W0 = (w.alloc (.cells #[.bool c, .slice s1 n1 c1, .slice s2 n2 c2] 26)).alloc (.cells #[.bool false, .slice none 0 0, .slice none 0 0] 26) := ⟨_, rfl⟩
  have hz0 : W0.heap.size = w.heap.size + 1 + 1 := by rw [hW0]; simp
  have HB0 : Hid (Below w.heap.size w W0) := by rw [hW0]; exact ((Below.refl _ w).alloc (Nat.le_refl _) _).alloc (by simp) _
  have HX0 : Hid (Box W0 w.heap.size c (.slice s1 n1 c1) (.slice s2 n2 c2)) := by
    rw [hW0]; exact (Box.new w _ _ _).below (Nat.le_refl _) ((Below.refl _ _).alloc (Nat.le_refl _) _)
  have HX1 : Hid (Box W0 (w.heap.size + 1) false (.slice none 0 0) (.slice none 0 0)) := by
    rw [hW0]
    have := Box.new (w.alloc (.cells #[.bool c, .slice s1 n1 c1, .slice s2 n2 c2] 26)) false (.slice none 0 0) (.slice none 0 0)
    rw [World.size_alloc] at this
    exact this
  have HW0 := hide hW0
  have R1 := hide (r1.below (Nat.le_refl _) (unhide HB0))
  have R2 := hide (r2.below (Nat.le_refl _) (unhide HB0))
  have HZ0 := hide hz0
  clear hW0 hz0 r1 r2
  go_enter Try.func20, Try.ntmps20
  go_upto_region 1 with fail
  rw [← unhide HW0]
  refine regionLw W0 w.heap.size (w.heap.size + 1) c s1 s2 n1 n2 c1 c2 sh dt (unhide R1) (unhide R2) h1 h2 _ _ (unhide HX1) ?_ _ (by simp) rfl rfl rfl (unhide HX0) ?_
  · intro a g1 g2 d1 d2 wx hlw
    apply_assumption
    have hv2 : (a.put (some 13) (.agg #[.bool c, .slice (some ⟨g1, 0, none⟩) n1 d1, .slice (some ⟨g2, 0, none⟩) n2 d2])).eval (.tmp 2) = .pointer (some ⟨w.heap.size + 1, 0, none⟩) := by rw [eval_ne (by decide)]; exact hlw.e2
    obtain ⟨a', ha'⟩ : ∃ a', a' = a.put (some 13) (.agg #[.bool c, .slice (some ⟨g1, 0, none⟩) n1 d1, .slice (some ⟨g2, 0, none⟩) n2 d2]) := ⟨_, rfl⟩
    have hdf : a'.defers = [] := by rw [ha', put_defers]; exact hlw.df
    rw [← ha'] at hv2 ⊢
    have hv3 : a'.tmps[2]?.getD undef = .pointer (some ⟨w.heap.size + 1, 0, none⟩) := by simpa [Act.eval] using hv2
    clear ha'
    have hb := ((unhide HX1).below (Nat.le_refl _) hlw.low).sets (c' := c) (u1 := .slice (some ⟨g1, 0, none⟩) n1 d1) (u2 := .slice (some ⟨g2, 0, none⟩) n2 d2)
    obtain ⟨r0, r1, r2, _, _, _⟩ := hb.all
    have hbx := (unhide HX1).below (Nat.le_refl _) hlw.low
    have hz0 := unhide HZ0
    have o1 := (hlw.a2 rfl).2
    have o2 := (hlw.b2 rfl).2
    have hk1 : n1 ≤ d1 := by
      rcases o1.2 with ⟨e, _⟩ | ⟨g', cap', cur, e, _, _, hr, _⟩
      · cases e
      · cases e; exact hr
    have hk2 : n2 ≤ d2 := by
      rcases o2.2 with ⟨e, _⟩ | ⟨g', cap', cur, e, _, _, hr, _⟩
      · cases e
      · cases e; exact hr
    obtain ⟨_, _, e1, q1⟩ := Own.of_owns o1 (by omega)
    obtain ⟨_, _, e2, q2⟩ := Own.of_owns o2 (by omega)
    cases e1
    cases e2
    have hn1 : ∀ k, At (some ⟨g1, 0, none⟩) n1 k → k ≠ w.heap.size + 1 := fun k hk => q1.row.notBox hbx hk
    have hn2 : ∀ k, At (some ⟨g2, 0, none⟩) n2 k → k ≠ w.heap.size + 1 := fun k hk => q2.row.notBox hbx hk
    have hlow := (unhide HB0).trans (hlw.low.mono (by omega))
    go_wp2_with fail
    refine bodyPost_ret (v := .agg #[.bool c, .slice (some ⟨g1, 0, none⟩) n1 d1, .slice (some ⟨g2, 0, none⟩) n2 d2]) (by simp [results, Try.results20, go_sem, hv3, r0, r1, r2]) hdf ?_
    exact ⟨g1, g2, d1, d2, rfl, (((q1.mono (by omega)).other (q := ⟨w.heap.size + 1, 0, none⟩) hn1 _).other (q := ⟨w.heap.size + 1, 1, none⟩) hn1 _).other (q := ⟨w.heap.size + 1, 2, none⟩) hn1 _, (((q2.mono (by omega)).other (q := ⟨w.heap.size + 1, 0, none⟩) hn2 _).other (q := ⟨w.heap.size + 1, 1, none⟩) hn2 _).other (q := ⟨w.heap.size + 1, 2, none⟩) hn2 _, hk1, hk2, ((hlow.setCell (p := ⟨w.heap.size + 1, 0, none⟩) (by simp) _).setCell (p := ⟨w.heap.size + 1, 1, none⟩) (by simp) _).setCell (p := ⟨w.heap.size + 1, 2, none⟩) (by simp) _⟩
  · exact fun _ _ _ _ _ h => h

end Go.Proofs.Ytlnangnimbgpoaa
