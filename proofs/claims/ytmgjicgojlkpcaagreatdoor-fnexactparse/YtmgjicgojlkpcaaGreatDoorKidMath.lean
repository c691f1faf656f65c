import Derived.Test.YtmgjicgojlkpcaaGreatDoorTreeMath3
namespace Go.Proofs.YtmgjicgojlkpcaaGreatDoor
open Go

/-- How many kids a kind has. -/
theorem kids_cnt {k : Int} {ks : List Int} (h : kidsB k ks = true) : (k = 7 → 2 ≤ ks.length) ∧ (k = 9 → ks.length = 2) ∧ (k = 10 → ks.length = 3) ∧ (k = 19 ∨ k = 20 ∨ k = 22 → ks.length = 1) ∧ (k = 21 → 2 ≤ ks.length) ∧ (k = 23 ∨ k = 24 → ks.length = 2) := by
  refine ⟨fun e => ?_, fun e => ?_, fun e => ?_, fun e => ?_, fun e => ?_, fun e => ?_⟩
  · subst e
    unfold kidsB at h
    rw [if_pos rfl, Bool.and_eq_true, decide_eq_true_eq] at h
    omega
  · subst e
    have h' : fits [102, 101] ks = true := h
    rw [kfit2, Bool.and_eq_true, decide_eq_true_eq] at h'
    omega
  · subst e
    have h' : fits [101, 102, 101] ks = true := h
    rw [kfit3, Bool.and_eq_true, decide_eq_true_eq] at h'
    omega
  · rcases e with rfl | rfl | rfl
    · have h' : fits [101] ks = true := h
      rw [kfit1, Bool.and_eq_true, decide_eq_true_eq] at h'
      omega
    · have h' : fits [98] ks = true := h
      rw [kfit1, Bool.and_eq_true, decide_eq_true_eq] at h'
      omega
    · have h' : fits [101] ks = true := h
      rw [kfit1, Bool.and_eq_true, decide_eq_true_eq] at h'
      omega
  · subst e
    unfold kidsB at h
    rw [if_neg (by decide), if_pos rfl, Bool.and_eq_true, decide_eq_true_eq] at h
    omega
  · rcases e with rfl | rfl
    · have h' : fits [101, 101] ks = true := h
      rw [kfit2, Bool.and_eq_true, decide_eq_true_eq] at h'
      omega
    · have h' : fits [101, 101] ks = true := h
      rw [kfit2, Bool.and_eq_true, decide_eq_true_eq] at h'
      omega

theorem take_getD {zs : List Int} {m q : Nat} (h : q < m) : (zs.take m).getD q 0 = zs.getD q 0 := by simp [List.getD_eq_getElem?_getD, h]
theorem drop_getD (zs : List Int) (q : Nat) : (zs.drop 1).getD q 0 = zs.getD (q + 1) 0 := by simp [List.getD_eq_getElem?_getD]

end Go.Proofs.YtmgjicgojlkpcaaGreatDoor
