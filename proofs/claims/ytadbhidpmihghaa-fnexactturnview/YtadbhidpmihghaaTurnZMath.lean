import Derived.Test.YtadbhidpmihghaaPermMath
import Derived.Test.YtadbhidpmihghaaTurnMath
import Derived.Test.YtadbhidpmihghaaSpecAnswer
namespace Go.Proofs.Ytadbhidpmihghaa

/-- Where a number of the order has been, both ways hold the same. -/
theorem turn_hit (p l : List Int) {r : Nat} (hl : l.length = r) (i q : Nat) (hq : q < r) (h : ∃ j, j < i ∧ axNo p j = q) : (turnN p l r i).getD q 0 = (turnV p l i).getD q 0 := by
  induction i with
  | zero => obtain ⟨j, hj, _⟩ := h; omega
  | succ i ih =>
    show ((turnN p l r i).set (axNo p i) (l.getD i 0)).getD q 0 = ((turnV p l i).set (axNo p i) (l.getD i 0)).getD q 0
    by_cases e : axNo p i = q
    · subst e
      simp [List.getD, turnN_len, turnV_len, hl, hq]
    · have ih' := ih (by
        obtain ⟨j, hj, h2⟩ := h
        exact ⟨j, by rcases Nat.lt_or_ge j i with h3 | h3; exact h3; exact absurd (by rw [show i = j by omega]; exact h2) e, h2⟩)
      simp only [List.getD, List.getElem?_set, if_neg e]
      exact ih'

theorem turn_same {p l : List Int} {r : Nat} (hl : l.length = r) (hp : p.length = r) (h : orderOk p r r = true) : turnN p l r r = turnV p l r := by
  apply List.ext_getElem
  · rw [turnN_len, turnV_len, hl]
  · intro q h1 h2
    rw [turnN_len] at h1
    have hm : q ∈ (List.range r).map (axNo p) := (order_perm h hp).mem_iff.2 (by simpa using h1)
    obtain ⟨j, hj, e⟩ := List.mem_map.mp hm
    have := turn_hit p l hl r q h1 ⟨j, by simpa using hj, e⟩
    rw [getD_eq _ _ (by rw [turnN_len]; exact h1), getD_eq _ _ (by rw [turnV_len, hl]; exact h1)] at this
    exact this

theorem turn_formed {c : Int} {sh st p : List Int} (hf : formed c sh st = true) (hp : p.length = sh.length) (h : orderOk p sh.length sh.length = true) : formed c (turnV p sh sh.length) (turnV p st sh.length) = true := by
  obtain ⟨hsb, hle, hcb, _⟩ := formed_parts hf
  have hst : st.all viewIn = true := by
    unfold formed at hf
    simp only [Bool.and_eq_true] at hf
    exact hf.2.2.2
  have p1 := turn_perm h hp rfl
  have p2 := turn_perm (sh := st) h hp hle
  rw [turn_same rfl hp h] at p1
  rw [turn_same hle hp h] at p2
  have hin := shapeIn_perm p1.symm (shapeB_in hsb).1
  refine formed_yes ?_ (by rw [turnV_len, turnV_len, hle]) (decide_eq_true hcb) ?_
  · obtain ⟨ha, m, hm⟩ := hin
    exact shape_good (n := sh.length) (by rw [turnV_len]) (shapeB_in hsb).2 m ha hm
  · rw [List.all_eq_true]
    exact fun x hx => List.all_eq_true.1 hst x (p2.mem_iff.1 hx)

end Go.Proofs.Ytadbhidpmihghaa
