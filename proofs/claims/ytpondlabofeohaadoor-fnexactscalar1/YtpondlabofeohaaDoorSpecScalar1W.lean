import Derived.Test.YtpondlabofeohaaDoorSpecScalar1
import Derived.Test.YtpondlabofeohaaDoorSpecGrow
namespace Go.Proofs.YtpondlabofeohaaDoor
open Go.RowKit

set_option maxHeartbeats 2000000 in
theorem Scalar1_bad (op : Int) (c : Bool) (a1 a2 : Addr) (n1 n2 c1 c2 : Nat) (sh dt : List Int) (w : World) (h1 : Row w (some a1) n1 sh) (h2 : Row w (some a2) n2 dt) (hbad : ¬ (arrOk c sh dt = true ∧ oneOp op = true ∧ c = false)) :
    Calls Tryd.prog 9 #[.int .i64 op, .agg #[.bool c, .slice (some a1) n1 c1, .slice (some a2) n2 c2]] w (GivesRow w (scalar1 op c sh dt)) := by
  have HS : Hid (scalar1 op c sh dt = noAns 3) := by
    show _ = _
    unfold scalar1
    rw [if_neg (fun h => hbad ⟨h.1, h.2.1, h.2.2.1⟩)]
  have H1 := hide h1
  have H2 := hide h2
  clear h1 h2
  obtain ⟨r, hr⟩ : ∃ r, arrOk c sh dt = r := ⟨_, rfl⟩
  have HR := hide hr
  rw [hr] at hbad
  clear hr
  have hbad' : r = false ∨ r = true ∧ oneOp op = false ∨ r = true ∧ oneOp op = true ∧ c = true := by
    cases r <;> cases h : oneOp op <;> cases c <;> simp_all
  clear hbad
  rcases hbad' with rfl | ⟨rfl, hop⟩ | ⟨rfl, hop, rfl⟩
  · go_enter Tryd.func9, Tryd.ntmps9
    go_wp2_with fail
    refine (ArrayOk_eq _ _ _ _ _ _ _ sh dt _ (((unhide H1).alloc _).alloc _) (((unhide H2).alloc _).alloc _) _ HR).mono ?_
    rintro e w1 ⟨rfl, hb1⟩
    obtain ⟨B3, B4, hB1⟩ := boxes2 hb1
    have hz1 := B4.lt
    clear hb1
    go_wp2_with fail
    refine (l4None_any _).mono ?_
    rintro e w2 ⟨rfl, hb2⟩
    obtain ⟨q0, q1, q2, q3, q4, q5, q6⟩ := (B4.below (Nat.le_refl _) hb2).all
    have hB2 := hide (hB1.trans (hb2.mono (by omega)))
    clear hb2 hB1 B3 B4 hz1
    go_wp2
    refine bodyPost_ret (v := .tuple #[.agg #[.bool false, .slice none 0 0, .slice none 0 0], .int .i64 3]) (by simp [results, Tryd.results9, go_sem, q0, q1, q2]) rfl ?_
    rw [unhide HS]
    exact ⟨none, 0, 0, none, 0, 0, rfl, row_nil _ _, row_nil _ _, (((unhide hB2).setCell (by simp) _).setCell (by simp) _).setCell (by simp) _⟩
  · have hop' : ¬ (op = 1 ∨ op = 2 ∨ op = 3 ∨ op = 7 ∨ op = 17) := by simpa [oneOp] using hop
    have k1 : (op != 1) = true := by simp; omega
    have k2 : (op != 2) = true := by simp; omega
    have k3 : (op != 3) = true := by simp; omega
    have k4 : (op != 7) = true := by simp; omega
    have k5 : (op != 17) = true := by simp; omega
    clear hop hop'
    go_enter Tryd.func9, Tryd.ntmps9
    go_wp2_with fail
    refine (ArrayOk_eq _ _ _ _ _ _ _ sh dt _ (((unhide H1).alloc _).alloc _) (((unhide H2).alloc _).alloc _) _ HR).mono ?_
    rintro e w1 ⟨rfl, hb1⟩
    obtain ⟨B3, B4, hB1⟩ := boxes2 hb1
    have hz1 := B4.lt
    clear hb1
    go_wp2_with fail
    refine (l4None_any _).mono ?_
    rintro e w2 ⟨rfl, hb2⟩
    obtain ⟨q0, q1, q2, q3, q4, q5, q6⟩ := (B4.below (Nat.le_refl _) hb2).all
    have hB2 := hide (hB1.trans (hb2.mono (by omega)))
    clear hb2 hB1 B3 B4 hz1
    go_wp2
    refine bodyPost_ret (v := .tuple #[.agg #[.bool false, .slice none 0 0, .slice none 0 0], .int .i64 3]) (by simp [results, Tryd.results9, go_sem, q0, q1, q2]) rfl ?_
    rw [unhide HS]
    exact ⟨none, 0, 0, none, 0, 0, rfl, row_nil _ _, row_nil _ _, (((unhide hB2).setCell (by simp) _).setCell (by simp) _).setCell (by simp) _⟩
  · have hop' : op = 1 ∨ op = 2 ∨ op = 3 ∨ op = 7 ∨ op = 17 := by simpa [oneOp] using hop
    clear hop
    rcases hop' with rfl | rfl | rfl | rfl | rfl
    all_goals
      go_enter Tryd.func9, Tryd.ntmps9
      go_wp2_with fail
      refine (ArrayOk_eq _ _ _ _ _ _ _ sh dt _ (((unhide H1).alloc _).alloc _) (((unhide H2).alloc _).alloc _) _ HR).mono ?_
      rintro e w1 ⟨rfl, hb1⟩
      obtain ⟨B3, B4, hB1⟩ := boxes2 hb1
      have hz1 := B4.lt
      obtain ⟨x0, x1, x2, x3, x4, x5, x6⟩ := B3.all
      clear hb1
      go_wp2_with fail
      refine (l4None_any _).mono ?_
      rintro e w2 ⟨rfl, hb2⟩
      obtain ⟨q0, q1, q2, q3, q4, q5, q6⟩ := (B4.below (Nat.le_refl _) hb2).all
      have hB2 := hide (hB1.trans (hb2.mono (by omega)))
      clear hb2 hB1 B3 B4 hz1 x0 x1 x2 x3 x4 x5 x6
      go_wp2
      refine bodyPost_ret (v := .tuple #[.agg #[.bool false, .slice none 0 0, .slice none 0 0], .int .i64 3]) (by simp [results, Tryd.results9, go_sem, q0, q1, q2]) rfl ?_
      rw [unhide HS]
      exact ⟨none, 0, 0, none, 0, 0, rfl, row_nil _ _, row_nil _ _, (((unhide hB2).setCell (by simp) _).setCell (by simp) _).setCell (by simp) _⟩

end Go.Proofs.YtpondlabofeohaaDoor
