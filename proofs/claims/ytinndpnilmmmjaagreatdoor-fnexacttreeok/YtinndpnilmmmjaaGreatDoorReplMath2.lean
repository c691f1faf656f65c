import Derived.Test.YtinndpnilmmmjaaGreatDoorMFit2
import Derived.Lib.Replace
import Derived.Lib.CountLaws
namespace Go.Proofs.YtinndpnilmmmjaaGreatDoor
open Go

theorem index_q (l : List UInt8) : Lib.index (39 :: l) [39] = ((0 : Nat) : Int) := by
  rw [Lib.index]
  simp [List.isPrefixOf]

theorem index_b {b : UInt8} (hb : b ≠ 39) (l : List UInt8) : Lib.index (b :: l) [39] = if Lib.index l [39] = -1 then -1 else Lib.index l [39] + 1 := by
  rw [Lib.index]
  have h1 : (39 == b) = false := by simpa using fun e => hb e.symm
  simp [List.isPrefixOf, h1]

/-- strings.ReplaceAll(s, quote, quote + quote) writes each quote twice. -/
theorem replaceK_qd : ∀ l : List UInt8, Lib.replaceK [39] [39, 39] (Lib.count l [39]) l = qd l
  | [] => by
    have hi : Lib.index [] [39] = -1 := by rw [Lib.index]; rfl
    rw [Lib.count_miss hi]
    rfl
  | b :: l => by
    have ih := replaceK_qd l
    by_cases hb : b = 39
    · subst hb
      rw [Lib.count_hit (by simp) (index_q l), Nat.add_comm, Lib.replaceK_hit _ _ _ _ _ (index_q l)]
      show [] ++ [39, 39] ++ Lib.replaceK [39] [39, 39] (Lib.count l [39]) l = _
      rw [ih]
      unfold qd
      rw [List.flatMap_cons, if_pos rfl]
      rfl
    · have hq : qd (b :: l) = b :: qd l := by unfold qd; rw [List.flatMap_cons, if_neg hb]; rfl
      rw [hq]
      have hi := index_b hb l
      by_cases h : Lib.index l [39] = -1
      · rw [if_pos h] at hi
        rw [Lib.count_miss hi]
        rw [Lib.count_miss h] at ih
        have : l = qd l := ih
        show b :: l = _
        rw [← this]
      · rw [if_neg h] at hi
        have hge := Lib.index_ge l [39]
        obtain ⟨i, hl⟩ : ∃ i : Nat, Lib.index l [39] = i := ⟨(Lib.index l [39]).toNat, by omega⟩
        rw [hl] at hi
        have hi' : Lib.index (b :: l) [39] = ((i + 1 : Nat) : Int) := by rw [hi]; rfl
        rw [Lib.count_hit (by simp) hl, Nat.add_comm, Lib.replaceK_hit _ _ _ _ _ hl] at ih
        rw [Lib.count_hit (by simp) hi', Nat.add_comm, Lib.replaceK_hit _ _ _ _ _ hi', ← ih]
        rfl

theorem replaceAll_qd (l : List UInt8) : Lib.replaceAll l [39] [39, 39] = qd l := by
  unfold Lib.replaceAll Lib.replace
  rw [if_neg (by decide)]
  have : Lib.replaceNum l [39] (-1) = Lib.count l [39] := by unfold Lib.replaceNum; rw [if_pos (by omega)]
  rw [this]
  exact replaceK_qd l

end Go.Proofs.YtinndpnilmmmjaaGreatDoor
