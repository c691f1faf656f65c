import Derived.Test.YtmgjicgojlkpcaaGreatDoorImplRec
import Derived.Test.YtmgjicgojlkpcaaGreatDoorSpecPb
import Derived.Test.YtmgjicgojlkpcaaGreatDoorBalMath
namespace Go.Proofs.YtmgjicgojlkpcaaGreatDoor
open Go.RowKit

theorem beg_fn {c : Nat} (h : begC c = true) : fnC c = false := by
  unfold begC at h
  rcases of_decide_eq_true h with rfl | rfl | rfl | rfl | rfl | rfl | rfl <;> decide
theorem end_fn {c : Nat} (h : endC c = true) : fnC c = false := by
  unfold endC at h
  rcases of_decide_eq_true h with rfl | rfl | rfl | rfl | rfl | rfl | rfl | rfl <;> decide
theorem fn_end {c : Nat} (h : fnC c = true) : endC c = false := by
  cases he : endC c with
  | false => rfl
  | true => rw [end_fn he] at h; cases h
theorem fn_beg {c : Nat} (h : fnC c = true) : begC c = false := by
  cases he : begC c with
  | false => rfl
  | true => rw [beg_fn he] at h; cases h
theorem no_fn {c : Nat} (h : fnC c ≠ true) : scalNo c = 0 ∧ c ≠ 8728 ∧ c ≠ 123 ∧ c ≠ 4 ∧ c ≠ 8711 ∧ primNo c = 0 := by
  unfold fnC at h
  replace h := fun e => h (decide_eq_true e)
  have hp : primNo c = 0 := by
    cases hp : primNo c with
    | zero => rfl
    | succ n => exact absurd (.inl (by omega)) h
  refine ⟨?_, fun e => h (.inr (.inr (.inl e))), fun e => h (.inr (.inr (.inr (.inl e)))), fun e => h (.inr (.inl e)), fun e => h (.inr (.inr (.inr (.inr e)))), hp⟩
  unfold scalNo
  rw [hp]
  rfl
theorem no_beg {X : Seen} {R : Nat → Nat → List NodeD → Option Res} {j : Nat} (h : begC (X.cl j) ≠ true) : atomS X R j = badR j := by
  unfold begC at h
  replace h := fun e => h (decide_eq_true e)
  unfold atomS
  rw [if_neg (fun e => h (.inl e)), if_neg (fun e => h (.inr (.inr (.inr (.inr (.inr (.inr e))))))), if_neg (fun e => h (.inr (.inl e))), if_neg (fun e => h (.inr (.inr (.inl e)))), if_neg (fun e => h (.inr (.inr (.inr (.inl e))))), if_neg (fun e => h (.inr (.inr (.inr (.inr (.inl e)))))), if_neg (fun e => h (.inr (.inr (.inr (.inr (.inr (.inl e)))))))]

theorem root_tree (k n m : Int) (s : ByteArray) (nums : List Int) (ls : List (List NodeD)) : rootK (treeN k n m s nums ls) = k := by unfold rootK treeN; simp

/-- Parts behind a tree: none, or the last sign is a closing bracket. -/
theorem idx_end {X : Seen} : ∀ (f q : Nat) (a : List NodeD) (q1 : Nat) (l : List (List NodeD)), prs X f 1 q a = some (true, q1, l) → (q1 = q ∧ l = [a] ∧ X.cl q ≠ 91) ∨ (q < q1 ∧ X.cl q = 91 ∧ X.cl (q1 - 1) = 93 ∧ X.cl q1 ≠ 91)
  | 0, _, _, _, _, h => by cases h
  | f + 1, q, a, q1, l, h => by
    rw [prs, if_neg (by decide), if_pos rfl] at h
    unfold idxS at h
    by_cases h91 : X.cl q = 91
    · rw [if_pos h91] at h
      rcases bind_cases h with ⟨q2, l2, hx, hk⟩ | ⟨_, _, _, hk⟩
      · by_cases h93 : X.cl q2 = 93
        · rw [if_pos h93] at hk
          have hb := (prs_bal (X := X) (o := 91) (c := 93) (.inr ⟨rfl, rfl⟩) f 2 (q + 1) [] q2 l2 hx).1
          rcases idx_end f (q2 + 1) _ q1 l hk with ⟨rfl, rfl, h2⟩ | ⟨h1, _, h2, h3⟩
          · exact .inr ⟨by omega, h91, h93, h2⟩
          · exact .inr ⟨by omega, h91, h2, h3⟩
        · rw [if_neg h93] at hk
          cases hk
      · cases hk
    · rw [if_neg h91] at h
      cases h
      exact .inl ⟨rfl, rfl, h91⟩

/-- Parts behind a tree that is itself taken of another: what comes is a tree of kind 7 over one of kind 7. -/
theorem idx_two {ts : List Tok} : ∀ (f q : Nat) (a : List NodeD) (q1 : Nat) (l : List (List NodeD)), q ≤ ts.length → rootK a = 7 → (seenT ts).cl q = 91 → prs (seenT ts) f 1 q a = some (true, q1, l) → ∃ a' l', l = [treeN 7 0 0 nilS [] (a' :: l')] ∧ rootK a' = 7 ∧ 1 ≤ l'.length ∧ l'.length ≤ ts.length + 1
  | 0, _, _, _, _, _, _, _, h => by cases h
  | f + 1, q, a, q1, l, hq, ha, h91, h => by
    rw [prs, if_neg (by decide), if_pos rfl] at h
    unfold idxS at h
    rw [if_pos h91] at h
    have hql : q < ts.length := seen_ends ts q (by rw [h91]; decide)
    rcases bind_cases h with ⟨q2, l2, hx, hk⟩ | ⟨_, _, _, hk⟩
    · by_cases h93 : (seenT ts).cl q2 = 93
      · rw [if_pos h93] at hk
        have hq2 : q2 < ts.length := seen_ends ts q2 (by rw [h93]; decide)
        by_cases h2 : (seenT ts).cl (q2 + 1) = 91
        · exact idx_two f (q2 + 1) _ q1 l hq2 (root_tree ..) h2 hk
        · have h3 := idx_end f (q2 + 1) _ q1 l hk
          rcases h3 with ⟨_, rfl, _⟩ | ⟨_, h3, _⟩
          · have hp := prs_parts f (q + 1) q2 l2 hql hx
            have hw := (prs_wf (seenT ts) f 2 (q + 1) [] (fun e => by cases e) q2 l2 hx).1
            exact ⟨a, l2, rfl, ha, pos_len hw, by omega⟩
          · exact absurd h3 h2
      · rw [if_neg h93] at hk
        cases hk
    · cases hk

/-- Two fuels that both give an answer give the same. -/
theorem prs_same {X : Seen} {f g m i : Nat} {a : List NodeD} {r r' : Res} (h : prs X f m i a = some r) (h' : prs X g m i a = some r') : r = r' := by
  have h1 := prs_le X (Nat.le_max_left f g) m i a r h
  have h2 := prs_le X (Nat.le_max_right f g) m i a r' h'
  rw [h1] at h2
  cases h2
  rfl

end Go.Proofs.YtmgjicgojlkpcaaGreatDoor
