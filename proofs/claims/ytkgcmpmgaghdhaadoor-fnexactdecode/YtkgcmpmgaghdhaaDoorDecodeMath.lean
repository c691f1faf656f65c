import Derived.Test.YtkgcmpmgaghdhaaDoorReshapeMath
namespace Go.Proofs.YtkgcmpmgaghdhaaDoor

/-- The number of the first k digits; none when it is too great. -/
def decStep (dt dt' : List Int) (n2 m2 : Nat) : Nat → Option Int
  | 0 => some 0
  | k + 1 => match decStep dt dt' n2 m2 k with
    | none => none
    | some v => if (timesOf v (dt.getD (k % n2) 0)).2 = true ∧ inM ((timesOf v (dt.getD (k % n2) 0)).1 + dt'.getD (k % m2) 0) = true then some ((timesOf v (dt.getD (k % n2) 0)).1 + dt'.getD (k % m2) 0) else none

def decCode (c d : Bool) (n1 m1 : Nat) : Int := if listCode c n1 ≠ 0 then listCode c n1 else listCode d m1
def decLen (n2 m2 : Nat) : Nat := if m2 = 1 then n2 else m2
def decAns (r : Option Int) : Ans := match r with | some v => ⟨false, [], [v], 0⟩ | none => noAns 7

def decode (c d : Bool) (sh dt sh' dt' : List Int) : Ans :=
  if arrOk c sh dt = true ∧ arrOk d sh' dt' = true then
    if decCode c d sh.length sh'.length ≠ 0 then noAns (decCode c d sh.length sh'.length)
    else if dt.length ≠ 1 ∧ dt.length ≠ decLen dt.length dt'.length then noAns 5
    else decAns (decStep dt dt' dt.length dt'.length (decLen dt.length dt'.length))
  else noAns 3

theorem decode_bad1 {c d : Bool} {sh dt sh' dt' : List Int} (h : arrOk c sh dt = false) : decode c d sh dt sh' dt' = noAns 3 := by unfold decode; rw [if_neg (by simp [h])]
theorem decode_bad2 {c d : Bool} {sh dt sh' dt' : List Int} (h : arrOk d sh' dt' = false) : decode c d sh dt sh' dt' = noAns 3 := by unfold decode; rw [if_neg (by simp [h])]
theorem decode_list {c d : Bool} {sh dt sh' dt' : List Int} (h1 : arrOk c sh dt = true) (h2 : arrOk d sh' dt' = true) (r : Int) (h : decCode c d sh.length sh'.length = r) (hr : r ≠ 0) : decode c d sh dt sh' dt' = noAns r := by
  unfold decode; rw [if_pos ⟨h1, h2⟩, h, if_pos hr]
theorem decode_len {c d : Bool} {sh dt sh' dt' : List Int} (h1 : arrOk c sh dt = true) (h2 : arrOk d sh' dt' = true) (h : decCode c d sh.length sh'.length = 0) (n2 m2 : Nat) (l2 : dt.length = n2) (l4 : dt'.length = m2) (h3 : n2 ≠ 1) (h4 : n2 ≠ decLen n2 m2) : decode c d sh dt sh' dt' = noAns 5 := by
  unfold decode; rw [if_pos ⟨h1, h2⟩, if_neg (by simp [h]), l2, l4, if_pos ⟨h3, h4⟩]
theorem decode_go {c d : Bool} {sh dt sh' dt' : List Int} (h1 : arrOk c sh dt = true) (h2 : arrOk d sh' dt' = true) (h : decCode c d sh.length sh'.length = 0) (n2 m2 : Nat) (l2 : dt.length = n2) (l4 : dt'.length = m2) (h3 : n2 = 1 ∨ n2 = decLen n2 m2) : decode c d sh dt sh' dt' = decAns (decStep dt dt' n2 m2 (decLen n2 m2)) := by
  unfold decode; rw [if_pos ⟨h1, h2⟩, if_neg (by simp [h]), l2, l4, if_neg (by omega)]

theorem dec_none {dt dt' : List Int} {n2 m2 k n : Nat} (h : decStep dt dt' n2 m2 k = none) (hk : k ≤ n) : decStep dt dt' n2 m2 n = none := by
  induction n with
  | zero => have : k = 0 := by omega
            subst this; exact h
  | succ n ih =>
    rcases Nat.lt_or_ge k (n + 1) with h' | h'
    · rw [decStep, ih (by omega)]
    · have : k = n + 1 := by omega
      subst this; exact h

theorem dec_step {dt dt' : List Int} {n2 m2 k : Nat} {v r1 : Int} {r2 : Bool} (h : decStep dt dt' n2 m2 k = some v) (ht : timesOf v (dt.getD (k % n2) 0) = (r1, r2)) : decStep dt dt' n2 m2 (k + 1) = if r2 = true ∧ inM (r1 + dt'.getD (k % m2) 0) = true then some (r1 + dt'.getD (k % m2) 0) else none := by
  rw [decStep, h]; simp only [ht]

theorem times_bd {a b r1 : Int} {r2 : Bool} (h : timesOf a b = (r1, r2)) : -1000000000000000 ≤ r1 ∧ r1 ≤ 1000000000000000 := by
  unfold timesOf at h
  split at h
  · rename_i hi
    have := inM_bd hi
    simp only [Prod.mk.injEq] at h
    omega
  · simp only [Prod.mk.injEq] at h
    omega

end Go.Proofs.YtkgcmpmgaghdhaaDoor
