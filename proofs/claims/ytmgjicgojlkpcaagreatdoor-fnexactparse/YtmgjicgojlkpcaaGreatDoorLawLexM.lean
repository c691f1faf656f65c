import Derived.Test.YtmgjicgojlkpcaaGreatDoorTokMath
namespace Go.Proofs.YtmgjicgojlkpcaaGreatDoor
open Go.RowKit

theorem lexR_len {s : ByteArray} : ∀ (F i : Nat) (acc : List Tok), i ≤ s.size → (lexR s F i acc).1.length ≤ acc.length + (s.size - i)
  | 0, i, acc, _ => by rw [lexR]; show acc.length ≤ _; omega
  | F + 1, i, acc, hi => by
    rw [lexR]
    by_cases h : i < s.size ∧ remark s i = false
    · rw [if_pos h]
      by_cases hb : bt s i = 32 ∨ bt s i = 9
      · rw [if_pos hb]
        have := lexR_len (s := s) F (i + 1) acc (by omega)
        omega
      · rw [if_neg hb]
        by_cases hc : (tokAt s i).c ≠ 0
        · rw [if_pos hc]; show 0 ≤ _; omega
        · rw [if_neg hc]
          have ht := tok_end h.1 (Classical.not_not.1 hc)
          have := lexR_len F (tokAt s i).e (acc ++ [⟨(tokAt s i).k, (tokAt s i).n, (tokAt s i).t, i⟩]) ht.2
          rw [List.length_append] at this
          simp only [List.length_cons, List.length_nil] at this
          omega
    · rw [if_neg h]; show acc.length ≤ _; omega

theorem lexT_len (s : ByteArray) : (lexT s).1.length ≤ s.size := by
  unfold lexT
  split
  · exact Nat.zero_le _
  · have := lexR_len (s := s) (s.size + 1) 0 [] (Nat.zero_le _)
    simpa using this

end Go.Proofs.YtmgjicgojlkpcaaGreatDoor
