import Derived.Test.YtmgjicgojlkpcaaGreatDoorLawMkO
namespace Go.Proofs.YtmgjicgojlkpcaaGreatDoor
open Go.RowKit

theorem marksC_app : ∀ (k : Nat) (us : List NodeC) (x : NodeC) (post : List NodeC), marksC k (us ++ x :: post) = marksC k us ++ markC (endK k us) x :: marksC (kE (endK k us) x) post
  | _, [], _, _ => rfl
  | k, y :: ys, x, post => by show markC k y :: marksC (kE k y) (ys ++ x :: post) = _; rw [marksC_app (kE k y) ys x post]; rfl

set_option maxRecDepth 20000 in
set_option maxHeartbeats 4000000 in
theorem heldNodeS_own (g cap B : Nat) (xs : List NodeC) (w : World) (h : NW w B g cap (marksC 1 xs)) (hn : xs.length ≤ 1048576) (hsm : SmallC xs) :
    Calls Tryz.prog 50 #[.slice (some ⟨g, 0, none⟩) xs.length cap, .int .i64 1] w fun e w' => e = .returned (.int .i64 (endK 1 xs : Nat)) ∧ Below w.heap.size w w' := by
  have HS := hide h
  have HSM := hide hsm
  clear h hsm
  obtain ⟨n, hnn⟩ : ∃ n, xs.length = n := ⟨_, rfl⟩
  rw [hnn] at hn ⊢
  have HN := hide hnn
  clear hnn
  go_enter Tryz.func50, Tryz.ntmps50
  go_wp2_with fail
  go_loopw [1, 5] (fun c i wr => ∃ (j x : Nat) (pre post : List NodeC), j ≤ n ∧ i = .int .i64 (j : Nat) ∧ c = .int .i64 (x : Nat) ∧ x ≤ 1 + j * 2097160 ∧ 1 ≤ x ∧ Hid (xs = pre ++ post) ∧ Hid (j = pre.length) ∧ Hid (x = endK 1 pre) ∧ Hid (Below w.heap.size w wr)) (fun _ i _ => n - (intOf i).toNat)
  case atStart => exact ⟨0, 1, [], xs, Nat.zero_le _, rfl, rfl, by omega, by omega, rfl, rfl, rfl, Below.refl _ _⟩
  case round =>
    obtain ⟨j, x, pre, post, hj, rfl, rfl, hx, hx1, HE, HJ, HX, HB⟩ := hrel
    by_cases hlt : j < n
    case neg =>
      have he : j = n := by omega
      have hp : post = [] := by
        have h1 := congrArg List.length (unhide HE)
        rw [List.length_append, unhide HN] at h1
        have h2 := unhide HJ
        exact List.length_eq_zero_iff.1 (by omega)
      subst hp
      have hpx : xs = pre := by rw [unhide HE, List.append_nil]
      subst hpx
      subst he
      have hlti : ¬ (j : Int) < (j : Int) := by omega
      go_wp2_with fail
      go_ret
      exact ⟨by rw [← unhide HX]; rfl, unhide HB⟩
    case pos =>
      have hlti : (j : Int) < (n : Int) := by omega
      have hxb : x ≤ 1 + 1048576 * 2097160 := Nat.le_trans hx (by have : j * 2097160 ≤ 1048576 * 2097160 := Nat.mul_le_mul_right _ (by omega); omega)
      obtain ⟨y, post', rfl⟩ := split_at (unhide HE) (unhide HJ) (by rw [unhide HN]; exact hlt)
      have hS := (unhide HS).below (unhide HB)
      rw [unhide HE, marksC_app, ← unhide HX] at hS
      obtain ⟨hlc, _, _, f, hr, hfy, _⟩ := hS.node
      have hJ : (marksC 1 pre).length = j := by rw [marksC_len]; exact (unhide HJ).symm
      rw [hJ] at hlc hfy
      obtain ⟨a4, c4, a5, c5, e4, e5, o4, o5⟩ := hS.lists (markC x y) (by simp)
      obtain ⟨s4, s5⟩ := unhide HSM y (by rw [unhide HE]; simp)
      obtain ⟨n4, hn4⟩ : ∃ n4, y.d.nums.length = n4 := ⟨_, rfl⟩
      obtain ⟨n5, hn5⟩ : ∃ n5, y.d.kids.length = n5 := ⟨_, rfl⟩
      have m4 : (markC x y).d.nums = marks ((x : Int) + 1 + 1 + 1 + 1) n4 := by rw [← hn4]; rfl
      have m5 : (markC x y).d.kids = marks ((x : Int) + 1 + 1 + 1 + 1 + (n4 : Int)) n5 := by rw [← hn4, ← hn5]; rfl
      rw [m4, marks_len] at e4 o4
      rw [m5, marks_len] at e5 o5
      rw [hn4] at s4
      rw [hn5] at s5
      obtain ⟨T, hT⟩ : ∃ T, mt (x + 3) = T := ⟨_, rfl⟩
      have hc : ∀ (q : Nat) (u : Value), (markC x y).cells[q]? = some u → wr.cell? ⟨g, j * 6 + q, none⟩ = some u := fun q u hq => by
        rw [hr.cell (by have := cells_lt hq; omega), hfy q u hq]
      have y0 : wr.cell? ⟨g, j * 6, none⟩ = some (.int .i64 (x : Int)) := hc 0 _ rfl
      have y1 : wr.cell? ⟨g, j * 6 + 1, none⟩ = some (.int .i64 ((x : Int) + 1)) := hc 1 _ rfl
      have y2 : wr.cell? ⟨g, j * 6 + 2, none⟩ = some (.int .i64 ((x : Int) + 1 + 1)) := hc 2 _ rfl
      have y3 : wr.cell? ⟨g, j * 6 + 3, none⟩ = some (.string T) := by rw [← hT]; exact hc 3 _ rfl
      have y4 : wr.cell? ⟨g, j * 6 + 4, none⟩ = some (.slice a4 n4 c4) := by rw [← e4]; exact hc 4 _ rfl
      have y5 : wr.cell? ⟨g, j * 6 + 5, none⟩ = some (.slice a5 n5 c5) := by rw [← e5]; exact hc 5 _ rfl
      have hgl := hr.lt
      have HM : Hid (∀ W, Calls Tryz.prog 86 #[.int .i64 ((x : Int) + 1 + 1 + 1)] W fun e w' => e = .returned (.string T) ∧ Below W.heap.size W w') := hide fun W => by
        have := markText_any (x + 3) (by omega) (by omega) W
        rw [hT] at this
        exact this
      have HO4 := hide o4.row
      have HO5 := hide o5.row
      have HN4 := hide hn4
      have HN5 := hide hn5
      clear hr hfy hc o4 o5 e4 e5 m4 m5 hn4 hn5 hT hJ hS hlc
      go_wp2_with fail
      go_cut [46] (fun r wx => r = .bool false ∧ Hid (Below wr.heap.size wr wx))
      case first =>
        first | (go_region_with (go_at_call 86; refine (unhide HM _).mono ?_; rintro e w1 ⟨rfl, hb1⟩; have HB1 := hide (((Below.refl _ _).drew).trans hb1); have c3 : w1.cell? ⟨g, j * 6 + 3, none⟩ = some (.string T) := (hb1.cell (p := ⟨g, j * 6 + 3, none⟩) hgl).trans y3; clear hb1)) | fail
        all_goals go_wp2_with fail
        all_goals (go_meet; case rel => exact ⟨rfl, HB1⟩)
      case rest =>
        obtain ⟨rfl, HWC⟩ := hcut
        have z4 := ((unhide HWC).cell (p := ⟨g, j * 6 + 4, none⟩) hgl).trans y4
        have z5 := ((unhide HWC).cell (p := ⟨g, j * 6 + 5, none⟩) hgl).trans y5
        have HR4 := hide ((unhide HO4).below (Nat.le_refl _) (unhide HWC))
        have HR5 := hide ((unhide HO5).below (Nat.le_refl _) (unhide HWC))
        have HB9 := hide ((unhide HB).trans ((unhide HWC).mono (unhide HB).size))
        clear y0 y1 y2 y3 y4 y5 HM HWC HO4 HO5 hgl
        go_wp2_with fail
        refine (heldIntS_marks a4 n4 c4 _ _ (by exact unhide HR4) (by omega) (by omega)).mono ?_
        rintro e w7 ⟨rfl, rfl⟩
        have hq1 : ¬ (x : Int) + 1 + 1 + 1 + 1 + (n4 : Int) < 0 := by omega
        go_wp2_with fail
        refine (heldIntS_marks a5 n5 c5 _ _ (by exact unhide HR5) (by omega) (by omega)).mono ?_
        rintro e w8 ⟨rfl, rfl⟩
        have hq2 : ¬ (x : Int) + 1 + 1 + 1 + 1 + (n4 : Int) + (n5 : Int) < 0 := by omega
        go_wp2_with fail
        go_roundw
        case rel => exact ⟨j + 1, x + 4 + n4 + n5, pre ++ [y], post', by omega, by go_num, by go_num, by omega, by omega, hide (by rw [unhide HE]; simp), hide (by rw [List.length_append, ← unhide HJ]; rfl), hide (by rw [endK_snoc, ← unhide HX, kE, unhide HN4, unhide HN5]), HB9⟩
        case measure => simp [intOf]; omega

/-- A tree of the run's own is marked, and the marks are held. -/
theorem markTree_own (g cap B : Nat) (xs : List NodeC) (w : World) (h : NW w B g cap xs) (hn : xs.length ≤ 1048576) (hsm : SmallC xs) :
    Calls Tryz.prog 15 #[.agg #[.slice (some ⟨g, 0, none⟩) xs.length cap], .int .i64 1] w fun e w' => e = .returned (.int .i64 (endK 1 xs : Nat)) ∧ NW w' B g cap (marksC 1 xs) ∧ But (fun y => y = g ∨ y ∈ blksC xs) w w' := by
  have hbA : Below w.heap.size w (w.alloc (.cells #[.slice (some ⟨g, 0, none⟩) xs.length cap] 29)) := (Below.refl _ _).alloc (Nat.le_refl _) _
  have HM := hide (markNodeS_own g cap B xs _ (h.below hbA) hn hsm)
  have HA : Hid (But (fun y => y = g ∨ y ∈ blksC xs) w (w.alloc (.cells #[.slice (some ⟨g, 0, none⟩) xs.length cap] 29))) := But.of_below hbA
  clear h hbA hsm hn
  obtain ⟨K, hK⟩ : ∃ K, endK 1 xs = K := ⟨_, rfl⟩
  rw [hK] at HM ⊢
  obtain ⟨n, hnn⟩ : ∃ n, xs.length = n := ⟨_, rfl⟩
  rw [hnn] at HM HA ⊢
  clear hK hnn
  go_enter Tryz.func15, Tryz.ntmps15
  go_wp2_with (go_at_call 41; refine (unhide HM).mono ?_; rintro e w1 ⟨rfl, hw1, hb1⟩; have HB1 := hide (((unhide HA).trans hb1).mono (fun x hx => hx.elim id id)); have HW1 := hide hw1; clear hb1 hw1)
  go_ret
  exact ⟨rfl, unhide HW1, unhide HB1⟩
theorem heldTree_own (g cap B : Nat) (xs : List NodeC) (w : World) (h : NW w B g cap (marksC 1 xs)) (hn : xs.length ≤ 1048576) (hsm : SmallC xs) :
    Calls Tryz.prog 21 #[.agg #[.slice (some ⟨g, 0, none⟩) xs.length cap], .int .i64 1] w fun e w' => e = .returned (.int .i64 (endK 1 xs : Nat)) ∧ Below w.heap.size w w' := by
  have hbA : Below w.heap.size w (w.alloc (.cells #[.slice (some ⟨g, 0, none⟩) xs.length cap] 29)) := (Below.refl _ _).alloc (Nat.le_refl _) _
  have HM := hide (heldNodeS_own g cap B xs _ (h.below hbA) hn hsm)
  have HA := hide hbA
  clear h hbA hsm hn
  obtain ⟨K, hK⟩ : ∃ K, endK 1 xs = K := ⟨_, rfl⟩
  rw [hK] at HM ⊢
  obtain ⟨n, hnn⟩ : ∃ n, xs.length = n := ⟨_, rfl⟩
  rw [hnn] at HM HA ⊢
  clear hK hnn
  have hK0 : ¬ (K : Int) < 0 := by omega
  go_enter Tryz.func21, Tryz.ntmps21
  go_wp2_with (go_at_call 50; refine (unhide HM).mono ?_; rintro e w1 ⟨rfl, hb1⟩; have HB1 := hide ((unhide HA).trans (hb1.mono (unhide HA).size)); clear hb1)
  go_ret
  exact ⟨rfl, unhide HB1⟩
/-- A tree of no nodes. -/
theorem markTree_nil (a : Option Addr) (c : Nat) (w : World) : Calls Tryz.prog 15 #[.agg #[.slice a 0 c], .int .i64 1] w fun e w' => e = .returned (.int .i64 1) ∧ Below w.heap.size w w' := by
  have HM : Hid (∀ W, Calls Tryz.prog 41 #[.slice a 0 c, .int .i64 1] W fun e w' => e = .returned (.int .i64 1) ∧ w' = W) := fun W => by
    go_enter Tryz.func41, Tryz.ntmps41
    go_wp2_with fail
    refine wp_loop_rounds 1 ?_
    rw [rounds_succ]
    go_wp2_with fail
    go_ret
    exact ⟨rfl, rfl⟩
  go_enter Tryz.func15, Tryz.ntmps15
  go_wp2_with (go_at_call 41; refine (unhide HM _).mono ?_; rintro e w1 ⟨rfl, rfl⟩)
  go_ret
  exact ⟨rfl, (Below.refl _ _).alloc (Nat.le_refl _) _⟩
theorem heldTree_nil (a : Option Addr) (c : Nat) (w : World) : Calls Tryz.prog 21 #[.agg #[.slice a 0 c], .int .i64 1] w fun e w' => e = .returned (.int .i64 1) ∧ Below w.heap.size w w' := by
  have HM : Hid (∀ W, Calls Tryz.prog 50 #[.slice a 0 c, .int .i64 1] W fun e w' => e = .returned (.int .i64 1) ∧ w' = W) := fun W => by
    go_enter Tryz.func50, Tryz.ntmps50
    go_wp2_with fail
    refine wp_loop_rounds 1 ?_
    rw [rounds_succ]
    go_wp2_with fail
    go_ret
    exact ⟨rfl, rfl⟩
  go_enter Tryz.func21, Tryz.ntmps21
  go_wp2_with (go_at_call 50; refine (unhide HM _).mono ?_; rintro e w1 ⟨rfl, rfl⟩)
  go_ret
  exact ⟨rfl, (Below.refl _ _).alloc (Nat.le_refl _) _⟩

end Go.Proofs.YtmgjicgojlkpcaaGreatDoor
