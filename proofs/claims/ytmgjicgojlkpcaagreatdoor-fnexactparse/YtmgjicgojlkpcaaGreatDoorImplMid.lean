import Derived.Test.YtmgjicgojlkpcaaGreatDoorImplScal
namespace Go.Proofs.YtmgjicgojlkpcaaGreatDoor
open Go.RowKit

section
variable {Z w w0 : World} {p i : Nat} {nd nd0 : Value} {xs ys : List NodeC} {ta : Option Addr} {tn tc bytes : Nat} {ts : List Tok}

theorem isYesM (E : IEnv Z ta tn ts bytes) (hm : MidI Z p ta tn tc bytes w0 nd0 xs ys i w nd) (hi : i ≤ 4200) {c : Nat} (hc : c ∈ signCs) {s : ByteArray} (hs : s = bstr (encZ ((c : Nat) : Int))) (h : (seenT ts).cl i = c) :
    Calls Tryz.prog 191 #[.pointer (some ⟨p, 0, none⟩), .string s] w fun e w' => e = .returned (.bool true) ∧ MidI Z p ta tn tc bytes w0 nd0 xs ys i w' nd := by
  refine (isAheadP E hm.ps hi hc hs).mono ?_
  rintro e w' ⟨rfl, hb⟩
  exact ⟨by rw [decide_eq_true h], hm.below hb⟩

theorem isNoM (E : IEnv Z ta tn ts bytes) (hm : MidI Z p ta tn tc bytes w0 nd0 xs ys i w nd) (hi : i ≤ 4200) {c : Nat} (hc : c ∈ signCs) {s : ByteArray} (hs : s = bstr (encZ ((c : Nat) : Int))) (h : (seenT ts).cl i ≠ c) :
    Calls Tryz.prog 191 #[.pointer (some ⟨p, 0, none⟩), .string s] w fun e w' => e = .returned (.bool false) ∧ MidI Z p ta tn tc bytes w0 nd0 xs ys i w' nd := by
  refine (isAheadP E hm.ps hi hc hs).mono ?_
  rintro e w' ⟨rfl, hb⟩
  exact ⟨by rw [decide_eq_false h], hm.below hb⟩

theorem takeYesM (E : IEnv Z ta tn ts bytes) (hm : MidI Z p ta tn tc bytes w0 nd0 xs ys i w nd) (hi : i ≤ 4200) {c : Nat} (hc : c ∈ signCs) {s : ByteArray} (hs : s = bstr (encZ ((c : Nat) : Int))) (h : (seenT ts).cl i = c) :
    Calls Tryz.prog 157 #[.pointer (some ⟨p, 0, none⟩), .string s] w fun e w' => e = .returned (.bool true) ∧ MidI Z p ta tn tc bytes w0 nd0 xs ys (i + 1) w' nd := by
  refine (takeP E hm.ps hi hc hs).mono ?_
  rintro e w' ⟨rfl, hp, hb⟩
  rw [if_pos h] at hp
  exact ⟨by rw [decide_eq_true h], hm.move hp hb⟩

theorem takeNoM (E : IEnv Z ta tn ts bytes) (hm : MidI Z p ta tn tc bytes w0 nd0 xs ys i w nd) (hi : i ≤ 4200) {c : Nat} (hc : c ∈ signCs) {s : ByteArray} (hs : s = bstr (encZ ((c : Nat) : Int))) (h : (seenT ts).cl i ≠ c) :
    Calls Tryz.prog 157 #[.pointer (some ⟨p, 0, none⟩), .string s] w fun e w' => e = .returned (.bool false) ∧ MidI Z p ta tn tc bytes w0 nd0 xs ys i w' nd := by
  refine (takeP E hm.ps hi hc hs).mono ?_
  rintro e w' ⟨rfl, hp, hb⟩
  rw [if_neg h] at hp
  exact ⟨by rw [decide_eq_false h], hm.move hp hb⟩

theorem needYesM (E : IEnv Z ta tn ts bytes) (hm : MidI Z p ta tn tc bytes w0 nd0 xs ys i w nd) (hi : i ≤ 4200) {c : Nat} (hc : c ∈ signCs) {s : ByteArray} (hs : s = bstr (encZ ((c : Nat) : Int))) (h : (seenT ts).cl i = c) :
    Calls Tryz.prog 195 #[.pointer (some ⟨p, 0, none⟩), .string s] w fun e w' => e = .returned .nilIface ∧ MidI Z p ta tn tc bytes w0 nd0 xs ys (i + 1) w' nd := by
  refine (needP E hm.ps hi hc hs).mono ?_
  rintro e w' (⟨_, rfl, hp, hb⟩ | ⟨hn, _⟩)
  · exact ⟨rfl, hm.move hp hb⟩
  · exact absurd h hn

theorem needNoM (E : IEnv Z ta tn ts bytes) (hm : MidI Z p ta tn tc bytes w0 nd0 xs ys i w nd) (hi : i ≤ 4200) {c : Nat} (hc : c ∈ signCs) {s : ByteArray} (hs : s = bstr (encZ ((c : Nat) : Int))) (h : (seenT ts).cl i ≠ c) :
    Calls Tryz.prog 195 #[.pointer (some ⟨p, 0, none⟩), .string s] w fun e w' => ∃ b, e = .returned (faultV b) ∧ IsFault w' b (tokA ts bytes i).p ∧ Below Z.heap.size Z w' := by
  refine (needP E hm.ps hi hc hs).mono ?_
  rintro e w' (⟨hn, _⟩ | ⟨_, h'⟩)
  · exact absurd hn h
  · exact h'

theorem refuseM (E : IEnv Z ta tn ts bytes) (hm : MidI Z p ta tn tc bytes w0 nd0 xs ys i w nd) (hi : i ≤ 4200) :
    Calls Tryz.prog 103 #[.pointer (some ⟨p, 0, none⟩)] w fun e w' => ∃ b, e = .returned (faultV b) ∧ IsFault w' b (tokA ts bytes i).p ∧ Below Z.heap.size Z w' := by
  refine (refuseP E hm.ps hi).mono ?_
  rintro e w' ⟨b, rfl, hf, _, hb⟩
  exact ⟨b, rfl, hf, hm.ps.low.trans (hb.mono hm.ps.low.size)⟩

theorem scalYesM (E : IEnv Z ta tn ts bytes) (hm : MidI Z p ta tn tc bytes w0 nd0 xs ys i w nd) (hi : i ≤ 4200) (h : 0 < scalNo ((seenT ts).cl i)) :
    Calls Tryz.prog 241 #[.pointer (some ⟨p, 0, none⟩)] w fun e w' => e = .returned (.tuple #[.int .i64 (scalNo ((seenT ts).cl i) : Nat), .nilIface]) ∧ MidI Z p ta tn tc bytes w0 nd0 xs ys (i + 1) w' nd := by
  refine (scalarP E hm.ps hi).mono ?_
  rintro e w' (⟨_, rfl, hp, hb⟩ | ⟨hn, _⟩)
  · exact ⟨rfl, hm.move hp hb⟩
  · omega

theorem scalNoM (E : IEnv Z ta tn ts bytes) (hm : MidI Z p ta tn tc bytes w0 nd0 xs ys i w nd) (hi : i ≤ 4200) (h : ¬ 0 < scalNo ((seenT ts).cl i)) :
    Calls Tryz.prog 241 #[.pointer (some ⟨p, 0, none⟩)] w fun e w' => ∃ b, e = .returned (.tuple #[.int .i64 0, faultV b]) ∧ IsFault w' b (tokA ts bytes i).p ∧ Below Z.heap.size Z w' := by
  refine (scalarP E hm.ps hi).mono ?_
  rintro e w' (⟨hn, _⟩ | ⟨_, h'⟩)
  · exact absurd hn h
  · exact h'

theorem gave_fault {e : Ending} {q b : Nat} (z : Int) (hv : e = .returned (.tuple #[.int .i64 z, faultV b])) (hf : IsFault w b (tokA ts bytes q).p) (hb : Below Z.heap.size Z w) : GaveI Z p ta tn tc ts bytes w0 nd0 xs (false, q, []) e w := .inr ⟨rfl, b, z, hv, hf, hb⟩

end
end Go.Proofs.YtmgjicgojlkpcaaGreatDoor
