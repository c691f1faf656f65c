import Derived.Test.YtadbhidpmihghabViewMath
import Derived.Test.YtadbhidpmihghabProdMath
import Derived.Test.YtadbhidpmihghabVAnsMath
namespace Go.Proofs.Ytadbhidpmihghab

/-- Axis i is cut within itself. -/
def cutOne (sh fr ns : List Int) (i : Nat) : Bool := decide (0 ≤ fr.getD i 0 ∧ 0 ≤ ns.getD i 0 ∧ fr.getD i 0 ≤ sh.getD i 0 ∧ ns.getD i 0 ≤ sh.getD i 0 - fr.getD i 0)
def cutB (sh fr ns : List Int) : Nat → Bool
  | 0 => true
  | i + 1 => cutB sh fr ns i && cutOne sh fr ns i
def offN (c : Int) (fr st : List Int) : Nat → Int
  | 0 => c
  | i + 1 => offN c fr st i + fr.getD i 0 * st.getD i 0

theorem cutB_le {sh fr ns : List Int} {m i : Nat} (h : cutB sh fr ns m = true) (hi : i ≤ m) : cutB sh fr ns i = true := by
  induction m with
  | zero => have : i = 0 := by omega
            subst this; exact h
  | succ m ih =>
    simp only [cutB, Bool.and_eq_true] at h
    by_cases e : i = m + 1
    · subst e; simp only [cutB, Bool.and_eq_true]; exact h
    · exact ih h.1 (by omega)
theorem cutB_no {sh fr ns : List Int} {m i : Nat} (hi : i < m) (h : cutOne sh fr ns i = false) : cutB sh fr ns m = false := by
  cases e : cutB sh fr ns m with
  | false => rfl
  | true =>
    have := cutB_le e (show i + 1 ≤ m by omega)
    simp only [cutB, Bool.and_eq_true] at this
    rw [h] at this
    exact absurd this.2 (by simp)

theorem prod_bd {f y : Int} (hf : 0 ≤ f ∧ f ≤ 10000) (hy : -10000 ≤ y ∧ y ≤ 10000) : -100000000 ≤ f * y ∧ f * y ≤ 100000000 := by
  have q1 := Int.mul_le_mul_of_nonneg_left hy.2 hf.1
  have q2 := Int.mul_le_mul_of_nonneg_left hy.1 hf.1
  have q3 : f * -10000 = -(f * 10000) := by rw [Int.mul_neg]
  omega

theorem offN_bd {c : Int} {sh st fr ns : List Int} (hc : -10000 ≤ c ∧ c ≤ 10000) (hs : ∀ k, sh.getD k 0 ≤ 10000) (hst : ∀ k, -10000 ≤ st.getD k 0 ∧ st.getD k 0 ≤ 10000) {i : Nat} (h : cutB sh fr ns i = true) : -(10000 + 100000000 * (i : Int)) ≤ offN c fr st i ∧ offN c fr st i ≤ 10000 + 100000000 * (i : Int) := by
  induction i with
  | zero => simp [offN]; omega
  | succ i ih =>
    simp only [cutB, Bool.and_eq_true] at h
    have h2 := of_decide_eq_true (show decide _ = true from h.2)
    have hb := prod_bd (f := fr.getD i 0) (y := st.getD i 0) ⟨h2.1, by have := hs i; omega⟩ (hst i)
    have := ih h.1
    unfold offN
    push_cast
    omega

theorem mixN_set {ns sh : List Int} {k : Nat} (hk : k < sh.length) (hl : ns.length = sh.length) : (ns.take k ++ sh.drop k).set k (ns.getD k 0) = ns.take (k + 1) ++ sh.drop (k + 1) := by
  have hkn : k < ns.length := by omega
  rw [List.drop_eq_getElem_cons hk, List.set_append_right _ _ (by simp; omega)]
  have e : k - (ns.take k).length = 0 := by simp; omega
  rw [e, List.set_cons_zero, List.take_succ_eq_append_getElem hkn, List.append_assoc]
  simp [List.getD, hkn]

def cutV (c : Int) (sh st fr ns : List Int) : VAns := if formed c sh st = true ∧ fr.length = sh.length ∧ ns.length = sh.length ∧ cutB sh fr ns sh.length = true then (if formed (offN c fr st sh.length) ns st = true then ⟨offN c fr st sh.length, ns, st, true⟩ else ⟨0, [], [], false⟩) else ⟨0, [], [], false⟩

end Go.Proofs.Ytadbhidpmihghab
