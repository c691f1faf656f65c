import Derived.Test.YtmgjicgojlkpcaaGreatDoorImplAhead
import Derived.Test.YtmgjicgojlkpcaaGreatDoorPrintTok
namespace Go.Proofs.YtmgjicgojlkpcaaGreatDoor
open Go.RowKit

/-- A sign's character. -/
def signOf (t : ByteArray) : Nat := (signCs.find? fun c => decide (bstr (encZ ((c : Nat) : Int)) = t)).getD 0

theorem signOf_all : (signCs.all fun c => decide (signOf (bstr (encZ ((c : Nat) : Int))) = c)) = true := by kernel_rfl

theorem signOf_at {c : Nat} (h : c ∈ signCs) : signOf (bstr (encZ ((c : Nat) : Int))) = c := by
  have := List.all_eq_true.mp signOf_all c h
  exact of_decide_eq_true this

theorem sign_ge : (signCs.all fun c => decide (40 ≤ c)) = true := by kernel_rfl

/-- What a token is to the parsers. -/
def clT (y : Tok) : Nat := if y.k = 1 then 1 else if y.k = 2 then 2 else if y.k = 3 then (if bt y.t 0 ≤ 90 then 4 else 3) else if y.k = 4 then signOf y.t else 0

/-- A token as Lex makes it. -/
def TokOk (y : Tok) : Prop := (y.k = 1 ∧ isNum y.n = true) ∨ y.k = 2 ∨ (y.k = 3 ∧ 0 < y.t.size ∧ (bt y.t 0 ≤ 90 ∨ 97 ≤ bt y.t 0)) ∨ (y.k = 4 ∧ ∃ c ∈ signCs, y.t = bstr (encZ ((c : Nat) : Int)))

theorem TokOk.ne {y : Tok} (h : TokOk y) : clT y ≠ 0 := by
  unfold clT
  rcases h with ⟨h, _⟩ | h | ⟨h, _⟩ | ⟨h, c, hc, ht⟩
  · simp [h]
  · simp [h]
  · rw [h]
    simp
    split <;> decide
  · rw [h]
    simp
    rw [ht, signOf_at hc]
    have := List.all_eq_true.mp sign_ge c hc
    have := of_decide_eq_true this
    omega

/-- A token against a sign. -/
theorem TokOk.sign {y : Tok} (h : TokOk y) {c : Nat} (hc : c ∈ signCs) : (decide (y.k = 4) && (y.t.toList == (bstr (encZ ((c : Nat) : Int))).toList)) = decide (clT y = c) := by
  have hge : 40 ≤ c := of_decide_eq_true (List.all_eq_true.mp sign_ge c hc)
  unfold clT
  rcases h with ⟨h, _⟩ | h | ⟨h, _⟩ | ⟨h, c', hc', ht⟩
  · rw [h]
    simp
    omega
  · rw [h]
    simp
    omega
  · rw [h]
    simp
    split <;> omega
  · rw [h]
    simp only [decide_true, Bool.true_and]
    rw [if_neg (by decide), if_neg (by decide), if_neg (by decide), if_pos trivial, ht, signOf_at hc']
    by_cases e : c' = c
    · subst e
      simp
    · rw [decide_eq_false e]
      refine beq_eq_false_iff_ne.2 fun e2 => e ?_
      rw [Lib.toList_data, Lib.toList_data] at e2
      have e3 : bstr (encZ ((c' : Nat) : Int)) = bstr (encZ ((c : Nat) : Int)) := ByteArray.ext (Array.toList_inj.1 e2)
      rw [← signOf_at hc', e3, signOf_at hc]

/-- What the parsers see of these tokens. -/
def seenT (ts : List Tok) : Seen where
  cl i := if i < ts.length then clT (tokA ts 0 i) else 0
  nv i := (tokA ts 0 i).n
  sv i := (tokA ts 0 i).t
  len := ts.length

theorem seen_ends (ts : List Tok) : (seenT ts).Ends := fun i h => by
  refine Decidable.byContradiction fun hn => h ?_
  have hn' : ¬ i < ts.length := hn
  show (if i < ts.length then clT (tokA ts 0 i) else 0) = 0
  rw [if_neg hn']

/-- The token at a place against a sign, behind the last too. -/
theorem seen_sign {ts : List Tok} (h : ∀ y ∈ ts, TokOk y) (bytes i : Nat) {c : Nat} (hc : c ∈ signCs) : (decide ((tokA ts bytes i).k = 4) && ((tokA ts bytes i).t.toList == (bstr (encZ ((c : Nat) : Int))).toList)) = decide ((seenT ts).cl i = c) := by
  have hge : 40 ≤ c := of_decide_eq_true (List.all_eq_true.mp sign_ge c hc)
  show _ = decide ((if i < ts.length then clT (tokA ts 0 i) else 0) = c)
  by_cases hi : i < ts.length
  · rw [if_pos hi]
    have e : ∀ b, tokA ts b i = ts[i] := fun b => by unfold tokA; simp [List.getD_eq_getElem?_getD, hi]
    rw [e, e]
    exact TokOk.sign (h _ (List.getElem_mem _)) hc
  · rw [if_neg hi]
    have e : tokA ts bytes i = ⟨0, 0, ⟨#[]⟩, bytes⟩ := by unfold tokA; rw [List.getD_eq_getElem?_getD, List.getElem?_eq_none (by omega)]; rfl
    rw [e]
    simp
    omega

end Go.Proofs.YtmgjicgojlkpcaaGreatDoor
