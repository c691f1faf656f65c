import Derived.Test.YtgjpchnkodnieaaGreatDoorMFit0
import Derived.Test.YtgjpchnkodnieaaGreatDoorSpecTwoE
import Derived.Test.YtgjpchnkodnieaaGreatDoorMFit0
import Derived.BigQuiet
namespace Go.Proofs.YtgjpchnkodnieaaGreatDoor
open Go.RowKit

set_option maxHeartbeats 400000 in
theorem l4Equal_any (op : Int) (w : World) : Calls Tryz.prog 180 #[.int .i64 op] w fun e w' => e = .returned (.bool (opEq op)) ∧ w' = w := by
  by_cases h1 : op = 9
  · have q1 : (op == 9) = true := by simp [h1]
    have HE : Hid (opEq op = true) := decide_eq_true (.inl h1)
    clear h1
    go_enter Tryz.func180, Tryz.ntmps180
    go_wp2
    go_ret
    exact ⟨ret_bool HE.out.symm, rfl⟩
  · have q1 : (op == 9) = false := by simp [h1]
    by_cases h2 : op = 10
    · have q2 : (op == 10) = true := by simp [h2]
      have HE : Hid (opEq op = true) := decide_eq_true (.inr h2)
      clear h1 h2
      go_enter Tryz.func180, Tryz.ntmps180
      go_wp2
      go_ret
      exact ⟨ret_bool HE.out.symm, rfl⟩
    · have q2 : (op == 10) = false := by simp [h2]
      have HE : Hid (opEq op = false) := decide_eq_false (by omega)
      clear h1 h2
      go_enter Tryz.func180, Tryz.ntmps180
      go_wp2
      go_ret
      exact ⟨ret_bool HE.out.symm, rfl⟩

theorem l4Two_eq {a b : Int} (ha : -1000000000000000 ≤ a ∧ a ≤ 1000000000000000) (hb : -1000000000000000 ≤ b ∧ b ≤ 1000000000000000) (op : Int) (hop : opIn op = true) (w : World) (r1 r2 : Int) (hr : Hid (twoOf op a b = (r1, r2))) :
    Calls Tryz.prog 183 #[.int .i64 op, .int .i64 a, .int .i64 b] w fun e w' => e = .returned (.tuple #[.int .i64 r1, .int .i64 r2]) ∧ w' = w := by
  have := l4Two_any ha hb op (of_decide_eq_true hop) w
  rw [unhide hr] at this
  exact this

theorem arr_bd {c : Bool} {sh dt : List Int} (h : arrOk c sh dt = true) (k : Nat) : -1000000000000000 ≤ dt.getD k 0 ∧ dt.getD k 0 ≤ 1000000000000000 := by
  by_cases hk : k < dt.length
  · have h1 : dt.all (dataOk c) = true := by simp [arrOk] at h; simpa using h.2.2
    have h2 := List.all_eq_true.mp h1 (dt.getD k 0) (by simp [hk])
    simp [dataOk] at h2
    simpa using h2.2
  · have e : dt.getD k 0 = 0 := by simp [List.getD, List.getElem?_eq_none (by omega : dt.length ≤ k)]
    rw [e]; omega

set_option maxHeartbeats 1000000 in
theorem l4Elements_any (op : Int) (c d : Bool) (v1 v2 : Value) (a2 b2 : Option Addr) (n2 m2 c2 d2 : Nat) (dt dt' : List Int) (i j : Nat) (w : World) (h2 : Row w a2 n2 dt) (k2 : Row w b2 m2 dt') (hi : i < n2) (hj : j < m2) (hop : opIn op = true)
    (hA : ∀ k, -1000000000000000 ≤ dt.getD k 0 ∧ dt.getD k 0 ≤ 1000000000000000) (hB : ∀ k, -1000000000000000 ≤ dt'.getD k 0 ∧ dt'.getD k 0 ≤ 1000000000000000) (r1 r2 : Int) (hr : Hid (elemOf op c dt i d dt' j = (r1, r2))) :
    Calls Tryz.prog 181 #[.int .i64 op, .agg #[.bool c, v1, .slice a2 n2 c2], .int .i64 i, .agg #[.bool d, v2, .slice b2 m2 d2], .int .i64 j] w fun e w' => e = .returned (.tuple #[.int .i64 r1, .int .i64 r2]) ∧ Below w.heap.size w w' := by
  have hs2 := h2.small
  have ks2 := k2.small
  obtain ⟨ba, oa, rfl, hla, hca⟩ := h2.get hi
  obtain ⟨bb, ob, rfl, hlb, hcb⟩ := k2.get hj
  have hA' := hA i
  have hB' := hB j
  have HOP := hide hop
  clear h2 k2 hA hB hop
  obtain ⟨x, hx⟩ : ∃ x, x = dt.getD i 0 := ⟨_, rfl⟩
  obtain ⟨y, hy⟩ : ∃ y, y = dt'.getD j 0 := ⟨_, rfl⟩
  rw [← hx] at hca hA'
  rw [← hy] at hcb hB'
  have hW : ∀ o1 o2, Below w.heap.size w ((w.alloc o1).alloc o2) := fun o1 o2 => ((Below.refl _ _).alloc (Nat.le_refl _) _).alloc (by simp) _
  by_cases hcd : c = d
  · subst hcd
    have HR : Hid (twoOf op x y = (r1, r2)) := by have := unhide hr; unfold elemOf at this; rw [if_neg (by simp), ← hx, ← hy] at this; exact this
    clear hr hx hy
    cases c
    all_goals
      go_enter Tryz.func181, Tryz.ntmps181
      go_wp2
      go_quiet ((go_at_call 183; exact Calls.quiet_of_same (l4Two_eq hA' hB' op (unhide HOP) _ r1 r2 HR)))
      go_wp2
      go_ret2
      exact ⟨rfl, Below.drewN (hW _ _) _⟩
  · have HR : Hid ((truth (op == 10), (0 : Int)) = (r1, r2)) := by have := unhide hr; unfold elemOf at this; rw [if_pos hcd] at this; exact this
    clear hr hx hy hA' hB'
    obtain ⟨q, hq⟩ : ∃ q, (op == 10) = q := ⟨_, rfl⟩
    rw [hq] at HR
    have hcd' : (c = true ∧ d = false) ∨ (c = false ∧ d = true) := by cases c <;> cases d <;> simp_all
    clear hcd
    rcases hcd' with ⟨rfl, rfl⟩ | ⟨rfl, rfl⟩
    all_goals
      go_enter Tryz.func181, Tryz.ntmps181
      go_wp2_with (go_at_call 200; refine (truth_call _ _).mono ?_; rintro e w1 ⟨rfl, rfl⟩)
      go_ret2
      have e := unhide HR
      simp only [Prod.mk.injEq] at e
      exact ⟨ret_two e.1 e.2, hW _ _⟩

end Go.Proofs.YtgjpchnkodnieaaGreatDoor
