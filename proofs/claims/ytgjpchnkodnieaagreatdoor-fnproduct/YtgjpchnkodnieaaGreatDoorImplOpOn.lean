import Derived.Test.YtgjpchnkodnieaaGreatDoorImplOpOf
import Derived.Test.YtgjpchnkodnieaaGreatDoorMFit0
namespace Go.Proofs.YtgjpchnkodnieaaGreatDoor
open Go.RowKit Go.Shelf

theorem elemFn_same {op : Int} {c : Bool} : elemFn op c c = twoOf op := by funext x y; simp [elemFn]
theorem elemFn_diff {op : Int} {c d : Bool} (h : c ≠ d) : elemFn op c d = fun _ _ => (truth (decide (op = 10)), 0) := by funext x y; simp [elemFn, h]

/-- The boxes of two arrays behind a call. -/
theorem twoBoxes {w w1 : World} {c d : Bool} {v1 v2 u1 u2 : Value} (hb : Below ((w.alloc (.cells #[.bool c, v1, v2] 25)).alloc (.cells #[.bool d, u1, u2] 25)).heap.size ((w.alloc (.cells #[.bool c, v1, v2] 25)).alloc (.cells #[.bool d, u1, u2] 25)) w1) :
    Box w1 w.heap.size c v1 v2 ∧ Box w1 (w.heap.size + 1) d u1 u2 ∧ Below w.heap.size w w1 := by
  refine ⟨((Box.new w c v1 v2).alloc _).below (Nat.le_refl _) hb, ?_, (((Below.refl _ _).alloc (Nat.le_refl _) _).alloc (by simp) _).trans (hb.mono (by simp; omega))⟩
  have := (Box.new (w.alloc (.cells #[.bool c, v1, v2] 25)) d u1 u2).below (Nat.le_refl _) hb
  simpa using this

theorem opIs77 {ga gb : Addr} {op : Int} {c d : Bool} {v : Value} {w1 : World} (hv : OpIs ga gb (twoOf op) v w1) (hop : opEq op = true) (hne : c ≠ d) : OpIs ga gb (elemFn op c d) (.func (.func 187) #[] #[.pointer (some ⟨w1.heap.size, 0, none⟩)]) (w1.alloc (.cells #[v] 137)) := by
  refine ⟨_, _, rfl, enters_of Tryz.func187 (by kernel_rfl) rfl, fun W a b hW _ _ => ?_⟩
  rw [elemFn_diff hne]
  exact clo77 op ga gb _ v a b W ((hv.alloc _).below hW) hop ((hW.cell (p := ⟨w1.heap.size, 0, none⟩) (by simp)).trans (cell_of_row _ _ 0 _ _ (0, 0) (heap_alloc_last w1 _)))

set_option maxHeartbeats 4000000 in
theorem operationOn_any (op : Int) (c d : Bool) (a1 a2 b1 b2 : Option Addr) (n1 n2 m1 m2 c1 c2 d1 d2 : Nat) (ga gb : Addr) (w : World) (hG : Gl w ga gb) (hop : opIn op = true) :
    Calls Tryz.prog 115 #[.int .i64 op, .agg #[.bool c, .slice a1 n1 c1, .slice a2 n2 c2], .agg #[.bool d, .slice b1 m1 d1, .slice b2 m2 d2]] w fun e w' => ∃ v, e = .returned v ∧ OnIs ga gb op c d v w' ∧ Below w.heap.size w w' := by
  have HG := hide hG
  have HOP := hide hop
  clear hG hop
  by_cases he : opEq op = true
  · have he' := of_decide_eq_true he
    have HE := hide he
    clear he
    cases c <;> cases d
    all_goals rcases he' with rfl | rfl
    all_goals
      go_enter Tryz.func115, Tryz.ntmps115
      go_wp2_with (go_at_call 186; refine (operationOf_eq _ ga gb _ (((unhide HG).alloc _).alloc _) (unhide HOP)).mono ?_; rintro e w1 ⟨v, rfl, hv, hb1⟩; obtain ⟨B3, B4, hB1⟩ := twoBoxes hb1; obtain ⟨x0, x1, x2, x3, x4, x5, x6⟩ := B3.all; obtain ⟨y0, y1, y2, y3, y4, y5, y6⟩ := B4.all; have HV := hide hv; have HB := hide hB1; obtain ⟨g, lb, rfl, eg, _⟩ := hv; clear hb1 hB1 B3 B4)
      go_ret
      refine ⟨_, rfl, .inr ⟨fun h => (by have := unhide HE; rw [this] at h; cases h.2), ?_⟩, (unhide HB).alloc (by omega) _⟩
      first | (rw [elemFn_same]; exact (unhide HV).alloc _) | exact opIs77 (unhide HV) (unhide HE) (by decide)
  · have he2 : opEq op = false := by simpa using he
    have HE := hide he2
    have he3 := of_decide_eq_false he2
    have q9 : (op != 9) = true := by simp; omega
    have q10 : (op != 10) = true := by simp; omega
    clear he he2 he3
    cases c <;> cases d
    all_goals
      go_enter Tryz.func115, Tryz.ntmps115
      go_wp2_with (go_at_call 186; refine (operationOf_eq _ ga gb _ (((unhide HG).alloc _).alloc _) (unhide HOP)).mono ?_; rintro e w1 ⟨v, rfl, hv, hb1⟩; obtain ⟨B3, B4, hB1⟩ := twoBoxes hb1; obtain ⟨x0, x1, x2, x3, x4, x5, x6⟩ := B3.all; obtain ⟨y0, y1, y2, y3, y4, y5, y6⟩ := B4.all; have HV := hide hv; have HB := hide hB1; obtain ⟨g, lb, rfl, eg, _⟩ := hv; clear hb1 hB1 B3 B4)
      go_ret
      first
      | exact ⟨_, rfl, .inr ⟨fun h => (by cases h.1), by rw [elemFn_same]; exact (unhide HV).alloc _⟩, (unhide HB).alloc (by omega) _⟩
      | exact ⟨_, rfl, .inl ⟨rfl, unhide HE, rfl⟩, (unhide HB).alloc (by omega) _⟩

end Go.Proofs.YtgjpchnkodnieaaGreatDoor
