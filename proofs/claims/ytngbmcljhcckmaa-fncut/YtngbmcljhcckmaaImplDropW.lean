import Derived.Test.YtngbmcljhcckmaaImplDrop
namespace Go.Proofs.Ytngbmcljhcckmaa
open Go.RowKit

set_option maxRecDepth 20000 in
set_option maxHeartbeats 2000000 in
theorem implDrop_any (c d : Bool) (a1 a2 b1 b2 : Option Addr) (n1 n2 m1 m2 c1 c2 d1 d2 : Nat) (sh dt sh' dt' : List Int) (w : World) (h1 : Row w a1 n1 sh) (h2 : Row w a2 n2 dt) (k1 : Row w b1 m1 sh') (k2 : Row w b2 m2 dt') :
    Calls Try.prog 23 #[.agg #[.bool c, .slice a1 n1 c1, .slice a2 n2 c2], .agg #[.bool d, .slice b1 m1 d1, .slice b2 m2 d2]] w (GivesCap w (drop c d sh dt sh' dt')) := by
  obtain ⟨R, hR⟩ : ∃ R, drop c d sh dt sh' dt' = R := ⟨_, rfl⟩
  have HC : Hid (∀ W, Below w.heap.size w W → Calls Try.prog 69 #[.agg #[], .agg #[.bool c, .slice a1 n1 c1, .slice a2 n2 c2], .agg #[.bool d, .slice b1 m1 d1, .slice b2 m2 d2]] W (GivesCap W R)) := fun W hW => by
    rw [← hR]
    exact cut_dropping c d a1 a2 b1 b2 n1 n2 m1 m2 c1 c2 d1 d2 sh dt sh' dt' W (h1.below (Nat.le_refl _) hW) (h2.below (Nat.le_refl _) hW) (k1.below (Nat.le_refl _) hW) (k2.below (Nat.le_refl _) hW)
  rw [hR]
  clear hR h1 h2 k1 k2
  obtain ⟨W0, hW0⟩ : ∃ W0, W0 = ((w.alloc (.cells #[.bool c, .slice a1 n1 c1, .slice a2 n2 c2] 26)).alloc (.cells #[.bool d, .slice b1 m1 d1, .slice b2 m2 d2] 26)).alloc (.cells #[.bool false, .slice none 0 0, .slice none 0 0] 26) := ⟨_, rfl⟩
  have hz0 : W0.heap.size = w.heap.size + 1 + 1 + 1 := by rw [hW0]; simp
  have HB0 : Hid (Below w.heap.size w W0) := by rw [hW0]; exact (((Below.refl _ w).alloc (Nat.le_refl _) _).alloc (by simp) _).alloc (by simp; omega) _
  have HX2 : Hid (Box W0 (w.heap.size + 1 + 1) false (.slice none 0 0) (.slice none 0 0)) := by
    rw [hW0]; exact Cutdropping.boxNew _ _ _ _ _ (by simp)
  have HW0 := hide hW0
  have hzz : w.heap.size + 1 + 1 < W0.heap.size := by omega
  clear hW0 hz0
  obtain ⟨r, rs, rd, rc⟩ := R
  go_enter Try.func23, Try.ntmps23
  go_wp2_with (go_at_call 69; rw [← HW0.out]; refine (HC.out _ HB0.out).mono ?_; rintro e w1 ⟨e1, l1, f1, e2, l2, f2, rfl, hO1, hO2, hap, hb1, hcp⟩; have HCP := hide hcp; clear hcp; have HO1 := hide hO1; have HO2 := hide hO2; have HAP : Hid (Apart e1 l1 e2 l2) := hap; have HB1 := hide hb1; clear hO1 hO2 hap hb1; obtain ⟨q0, q1, q2, q3, q4, q5, q6⟩ := (HX2.out.below (Nat.le_refl _) HB1.out).all)
  have hx := (HX2.out.below (Nat.le_refl _) HB1.out).sets (c' := r) (u1 := .slice e1 l1 f1) (u2 := .slice e2 l2 f2)
  obtain ⟨r0, r1, r2, _, _, _⟩ := hx.all
  refine bodyPost_ret (v := .tuple #[.agg #[.bool r, .slice e1 l1 f1, .slice e2 l2 f2], .int .i64 rc]) (by simp [results, Try.results23, go_sem, r0, r1, r2]) rfl ?_
  have hk1 : ∀ k, At e1 l1 k → k ≠ w.heap.size + 1 + 1 := fun k hk => by have := HO1.out.low hk; omega
  have hk2 : ∀ k, At e2 l2 k → k ≠ w.heap.size + 1 + 1 := fun k hk => by have := HO2.out.low hk; omega
  exact ⟨e1, l1, f1, e2, l2, f2, rfl, (((HO1.out.mono (by omega)).other (q := ⟨w.heap.size + 1 + 1, 0, none⟩) hk1 _).other (q := ⟨w.heap.size + 1 + 1, 1, none⟩) hk1 _).other (q := ⟨w.heap.size + 1 + 1, 2, none⟩) hk1 _, (((HO2.out.mono (by omega)).other (q := ⟨w.heap.size + 1 + 1, 0, none⟩) hk2 _).other (q := ⟨w.heap.size + 1 + 1, 1, none⟩) hk2 _).other (q := ⟨w.heap.size + 1 + 1, 2, none⟩) hk2 _, HAP.out, (((HB0.out.trans (HB1.out.mono (by omega))).setCell (p := ⟨w.heap.size + 1 + 1, 0, none⟩) (by simp; omega) _).setCell (p := ⟨w.heap.size + 1 + 1, 1, none⟩) (by simp; omega) _).setCell (p := ⟨w.heap.size + 1 + 1, 2, none⟩) (by simp; omega) _, HCP.out⟩

end Go.Proofs.Ytngbmcljhcckmaa
