import Derived.Test.YtmgjicgojlkpcaaGreatDoorNOwn
namespace Go.Proofs.YtmgjicgojlkpcaaGreatDoor
open Go.RowKit

theorem split_at {xs pre post : List NodeC} {j : Nat} (e : xs = pre ++ post) (hj : j = pre.length) (hlt : j < xs.length) : ∃ x post', post = x :: post' := by
  cases post with
  | nil => rw [e, List.append_nil] at hlt; omega
  | cons x l => exact ⟨x, l, rfl⟩

set_option maxRecDepth 20000 in
set_option maxHeartbeats 4000000 in
theorem markNodeS_own (g cap B : Nat) (xs : List NodeC) (w : World) (h : NW w B g cap xs) (hn : xs.length ≤ 1048576) (hsm : SmallC xs) :
    Calls Tryz.prog 41 #[.slice (some ⟨g, 0, none⟩) xs.length cap, .int .i64 1] w fun e w' => e = .returned (.int .i64 (endK 1 xs : Nat)) ∧ NW w' B g cap (marksC 1 xs) ∧ But (fun y => y = g ∨ y ∈ blksC xs) w w' := by
  have HS0 : Hid (NW w B g cap (marksC 1 [] ++ xs)) := h
  have HSM := hide hsm
  clear h hsm
  obtain ⟨n, hnn⟩ : ∃ n, xs.length = n := ⟨_, rfl⟩
  rw [hnn] at hn ⊢
  have HN := hide hnn
  clear hnn
  go_enter Tryz.func41, Tryz.ntmps41
  go_wp2_with fail
  go_loopw [1, 5] (fun c i wr => ∃ (j x : Nat) (pre post : List NodeC), j ≤ n ∧ i = .int .i64 (j : Nat) ∧ c = .int .i64 (x : Nat) ∧ x ≤ 1 + j * 2097160 ∧ 1 ≤ x ∧ Hid (xs = pre ++ post) ∧ Hid (j = pre.length) ∧ Hid (x = endK 1 pre) ∧ Hid (NW wr B g cap (marksC 1 pre ++ post)) ∧ Hid (But (fun y => y = g ∨ y ∈ blksC xs) w wr)) (fun _ i _ => n - (intOf i).toNat)
  case atStart => exact ⟨0, 1, [], xs, Nat.zero_le _, rfl, rfl, by omega, by omega, rfl, rfl, rfl, HS0, But.refl _ _⟩
  case round =>
    obtain ⟨j, x, pre, post, hj, rfl, rfl, hx, hx1, HE, HJ, HX, HS, HBT⟩ := hrel
    clear HS0
    by_cases hlt : j < n
    case neg =>
      have he : j = n := by omega
      have hp : post = [] := by
        have h1 := congrArg List.length (unhide HE)
        rw [List.length_append, unhide HN] at h1
        have h2 := unhide HJ
        exact List.length_eq_zero_iff.1 (by omega)
      subst hp
      have hpx : xs = pre := by rw [unhide HE, List.append_nil]
      subst hpx
      subst he
      have hlti : ¬ (j : Int) < (j : Int) := by omega
      go_wp2_with fail
      go_ret
      exact ⟨by rw [← unhide HX]; rfl, by have := unhide HS; rwa [List.append_nil] at this, unhide HBT⟩
    case pos =>
      have hlti : (j : Int) < (n : Int) := by omega
      have hxb : x ≤ 1 + 1048576 * 2097160 := Nat.le_trans hx (by have : j * 2097160 ≤ 1048576 * 2097160 := Nat.mul_le_mul_right _ (by omega); omega)
      obtain ⟨y, post', rfl⟩ := split_at (unhide HE) (unhide HJ) (by rw [unhide HN]; exact hlt)
      obtain ⟨hlc, hbl, hnd, f, hr, hfy, hf4⟩ := (unhide HS).node
      have hJ : (marksC 1 pre).length = j := by rw [marksC_len]; exact (unhide HJ).symm
      rw [hJ] at hlc hfy hf4
      obtain ⟨a4, c4, a5, c5, e4, e5, o4, o5⟩ := (unhide HS).lists y (by simp)
      obtain ⟨s4, s5⟩ := unhide HSM y (by rw [unhide HE]; simp)
      obtain ⟨n4, hn4⟩ : ∃ n4, y.d.nums.length = n4 := ⟨_, rfl⟩
      obtain ⟨n5, hn5⟩ : ∃ n5, y.d.kids.length = n5 := ⟨_, rfl⟩
      rw [hn4] at e4 o4 s4
      rw [hn5] at e5 o5 s5
      have f4 : f (j * 6 + 4) = .slice a4 n4 c4 := hfy 4 _ (by show some y.v4 = _; rw [e4])
      have f5 : f (j * 6 + 5) = .slice a5 n5 c5 := hfy 5 _ (by show some y.v5 = _; rw [e5])
      have r1 := hr.set (j * 6) (.int .i64 (x : Nat))
      have r2 := r1.set (j * 6 + 1) (.int .i64 ((x : Int) + 1))
      have r3 := r2.set (j * 6 + 2) (.int .i64 ((x : Int) + 1 + 1))
      have a0 := hr.cell (i := j * 6) (by omega)
      have z0 := hr.frozen (j * 6)
      have a1 := r1.cell (i := j * 6 + 1) (by omega)
      have z1 := r1.frozen (j * 6 + 1)
      have a2 := r2.cell (i := j * 6 + 2) (by omega)
      have z2 := r2.frozen (j * 6 + 2)
      have HM : Hid (∀ W, Calls Tryz.prog 86 #[.int .i64 ((x : Int) + 1 + 1 + 1)] W fun e w' => e = .returned (.string (mt (x + 3))) ∧ Below W.heap.size W w') := hide fun W => by
        have := markText_any (x + 3) (by omega) (by omega) W
        exact this
      obtain ⟨T, hT⟩ : ∃ T, mt (x + 3) = T := ⟨_, rfl⟩
      rw [hT] at HM
      obtain ⟨W3, hW3⟩ : ∃ W3, ((wr.setCell ⟨g, j * 6, none⟩ (.int .i64 (x : Nat))).setCell ⟨g, j * 6 + 1, none⟩ (.int .i64 ((x : Int) + 1))).setCell ⟨g, j * 6 + 2, none⟩ (.int .i64 ((x : Int) + 1 + 1)) = W3 := ⟨_, rfl⟩
      have HB3 : Hid (But (fun y => y = g) wr W3) := by
        rw [← hW3]
        show But (fun y => y = g) wr _
        exact (((But.refl (fun y => y = g) wr).setCell (p := ⟨g, j * 6, none⟩) rfl _).setCell (p := ⟨g, j * 6 + 1, none⟩) rfl _).setCell (p := ⟨g, j * 6 + 2, none⟩) rfl _
      rw [hW3] at r3
      have HR3 := hide r3
      have HW3 := hide hW3
      have HF4 := hide f4
      have HF5 := hide f5
      have HFF := hide hf4
      have HO4 := hide o4
      have HO5 := hide o5
      have HE4 := hide e4
      have HE5 := hide e5
      have HBL := hide hbl
      have HND := hide hnd
      have HN4 := hide hn4
      have HN5 := hide hn5
      have HTT := hide hT
      have HJJ := hide hJ
      clear r1 r2 r3 hr hfy hf4 o4 o5 e4 e5 hbl hnd f4 f5 hW3 hn4 hn5 hT hJ
      go_wp2_with (go_at_call 86; rw [unhide HW3]; refine (unhide HM _).mono ?_; rintro e w5 ⟨rfl, hb5⟩; have hr5 := (unhide HR3).of_block (hb5.block g (unhide HR3).lt); have c53 := hr5.cell (i := j * 6 + 3) (by omega); have z53 := hr5.frozen (j * 6 + 3); have hr6 := hr5.set (j * 6 + 3) (.string T); have c64 := hr6.cell (i := j * 6 + 4) (by omega); simp only [show ¬ j * 6 + 4 = j * 6 + 3 by omega, show ¬ j * 6 + 4 = j * 6 + 2 by omega, show ¬ j * 6 + 4 = j * 6 + 1 by omega, show ¬ j * 6 + 4 = j * 6 by omega, if_false] at c64; rw [unhide HF4] at c64; have HB6 : Hid (But (fun y => y = g) wr (w5.setCell ⟨g, j * 6 + 3, none⟩ (.string T))) := (((unhide HB3).trans (But.of_below (S := fun y => y = g) hb5)).mono (fun y hy => hy.elim id id)).setCell rfl _; have HR6 := hide hr6; clear hb5 hr5 hr6 HM)
      refine (markIntS_any a4 n4 c4 B y.d.nums _ _ ((unhide HB6).own (unhide HO4) (fun k hk ha => (unhide HBL k (blks4 (unhide HE4) ha)).1 hk)) (by omega) (by omega)).mono ?_
      rintro e w7 ⟨rfl, ho7, hb7⟩
      have hgn4 : ¬ At a4 n4 g := fun ha => (unhide HBL g (blks4 (unhide HE4) ha)).1 rfl
      have hgn5 : ¬ At a5 n5 g := fun ha => (unhide HBL g (blks5 (unhide HE5) ha)).1 rfl
      have hap45 : ∀ k, At a4 n4 k → ¬ At a5 n5 k := fun k h4 h5 => by
        have h := unhide HND
        unfold NodeC.blks at h
        rw [unhide HE4, unhide HE5, at_own h4, at_own h5] at h
        simp at h
      have hr7 := (unhide HR6).of_block (hb7.block g (unhide HR6).lt hgn4)
      have c75 := hr7.cell (i := j * 6 + 5) (by omega)
      simp only [show ¬ j * 6 + 5 = j * 6 + 3 by omega, show ¬ j * 6 + 5 = j * 6 + 2 by omega, show ¬ j * 6 + 5 = j * 6 + 1 by omega, show ¬ j * 6 + 5 = j * 6 by omega, if_false] at c75
      rw [unhide HF5] at c75
      have HO57 := hide (hb7.own ((unhide HB6).own (unhide HO5) (fun k hk ha => (unhide HBL k (blks5 (unhide HE5) ha)).1 hk)) hap45)
      have HB7 := hide hb7
      have HR7 := hide hr7
      have HO7 := hide ho7
      have HG5 := hide hgn5
      have HAP := hide hap45
      clear hb7 hr7 ho7 hgn4 hgn5 hap45 HO4 HO5 HR6 c64
      go_wp2_with fail
      refine (markIntS_any a5 n5 c5 B y.d.kids _ _ (unhide HO57) (by omega) (by omega)).mono ?_
      rintro e w8 ⟨rfl, ho8, hb8⟩
      have HB8 := hide hb8
      have HO8 := hide ho8
      clear hb8 ho8
      go_wp2_with fail
      go_roundw
      case rel =>
        have hxy : y ∈ xs := by rw [unhide HE]; simp
        have e4 := unhide HE4
        have e5 := unhide HE5
        rw [← unhide HN4] at e4
        rw [← unhide HN5] at e5
        have hB : But (fun k => k = g ∨ k ∈ y.blks) wr w8 := (((unhide HB6).trans (unhide HB7)).trans (unhide HB8)).mono (fun k hk => by
          rcases hk with (h | h) | h
          · exact .inl h
          · exact .inr (blks4 (unhide HE4) h)
          · exact .inr (blks5 (unhide HE5) h))
        refine ⟨j + 1, x + 4 + n4 + n5, pre ++ [y], post', by omega, by go_num, by go_num, by omega, by omega, hide (by rw [unhide HE]; simp), hide (by rw [List.length_append, ← unhide HJ]; rfl), hide (by rw [endK_snoc, ← unhide HX, kE, unhide HN4, unhide HN5]), hide ?_, hide ?_⟩
        · rw [marksC_snoc, ← unhide HX, List.append_assoc]
          refine NW.step (k := x) (unhide HS) hB ((unhide HR7).of_block ((unhide HB8).block g (unhide HR7).lt (unhide HG5))) ?_ e4 e5 ?_ ?_
          · rw [← unhide HJJ] at HFF
            exact unhide HFF _ _ _ (mt (x + 3)) _ _ _ (fun i => by rw [unhide HTT, unhide HJJ])
          · rw [unhide HN4]
            exact (unhide HB8).own (unhide HO7) (fun k h5 h4 => unhide HAP k h4 h5)
          · rw [unhide HN4, unhide HN5]
            exact unhide HO8
        · refine ((unhide HBT).trans hB).mono fun k hk => ?_
          rcases hk with h | h | h
          · exact h
          · exact .inl h
          · exact .inr (List.mem_flatMap.2 ⟨y, hxy, h⟩)
      case measure => simp [intOf]; omega

end Go.Proofs.YtmgjicgojlkpcaaGreatDoor
