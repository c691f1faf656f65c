import Derived.Test.YtmgjicgojlkpcaaGreatDoorNameMath
import Derived.Test.YtmgjicgojlkpcaaGreatDoorRelexMath3
import Derived.Test.YtmgjicgojlkpcaaGreatDoorSpecLooks
namespace Go.Proofs.YtmgjicgojlkpcaaGreatDoor
open Go.RowKit

theorem tok_some {k n : Int} {t : ByteArray} (h : (tokText k n t).size ≠ 0) : tokText k n t = spellT k n t := by
  unfold tokText at h ⊢
  split
  · rfl
  · rename_i hn
    rw [if_neg hn] at h
    exact absurd rfl h

theorem tok_named {s : ByteArray} {hi : Bool} (h : nameB s hi = true) : tokText 3 0 s = s := by
  rw [name_ok, Bool.and_eq_true, decide_eq_true_eq] at h
  rw [tok_some h.1]
  rfl

theorem tok_text {s : ByteArray} (h : txtB s = true) : (tokText 2 0 s).data.toList = looksD.txt s := by
  unfold txtB at h
  rw [decide_eq_true_eq] at h
  rw [tok_some h]
  rfl

theorem tok_num {z : Int} (h : isNum z = true) : (tokText 1 z ⟨#[]⟩).data.toList = looksD.num z := by
  unfold isNum at h
  rw [decide_eq_true_eq] at h
  have e : spellT 1 z ⟨#[]⟩ = bstr (numT z) := rfl
  have hsz : (spellT 1 z ⟨#[]⟩).size ≤ 2000 := by
    rw [e, bstr_size]
    have := (numT_parts z (by omega)).1
    omega
  rw [text_of_again (by rw [e]; exact again_num z (by omega)) hsz, e]
  show _ = if -1000000000000000 ≤ z ∧ z ≤ 1000000000000000 then (bstr (numT z)).data.toList else []
  rw [if_pos h]

theorem sign_all : (signCs.all fun c => decide (Utf8.decode (bstr (encZ (c : Nat))) 0 = (c, (bstr (encZ (c : Nat))).size)) && (decide (Utf8.decode (bstr (encZ (c : Nat))) 0 ≠ (65533, 1)) && decide (0 < (bstr (encZ (c : Nat))).size))) = true := by kernel_rfl

theorem again_of {x : ByteArray} {c : Nat} (h1 : Utf8.decode x 0 = (c, x.size)) (h2 : Utf8.decode x 0 ≠ (65533, 1)) (h3 : 0 < x.size) (hc : c ∈ signCs) : Again 4 0 x x := by
  have h4 := again_sign h3 h2 (by rw [h1]; exact hc)
  have e2 : 0 + (Utf8.decode x 0).2 = x.size := by rw [h1]; simp
  rw [e2] at h4
  have e : x.extract 0 x.size = x := by simp
  rwa [e] at h4

theorem sign_text {x : ByteArray} (h : Again 4 0 x x) (hs : x.size ≤ 4) : tokText 4 0 x = x := by
  have e : spellT 4 0 x = x := by unfold spellT; simp
  have := text_of_again (k := 4) (n := 0) (t := x) (by rw [e]; exact h) (by rw [e]; omega)
  rw [this, e]

theorem tok_sign {c : Nat} (h : c ∈ signCs) : tokText 4 0 (bstr (encZ (c : Nat))) = bstr (encZ (c : Nat)) := by
  have ha := List.all_eq_true.mp sign_all c h
  simp only [Bool.and_eq_true, decide_eq_true_eq] at ha
  obtain ⟨h1, h2, h3⟩ := ha
  exact sign_text (again_of h1 h2 h3 h) (by rw [bstr_size]; exact enc_len _)

end Go.Proofs.YtmgjicgojlkpcaaGreatDoor
