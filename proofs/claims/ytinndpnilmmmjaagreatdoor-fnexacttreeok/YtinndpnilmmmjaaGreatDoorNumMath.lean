import Derived.Test.YtinndpnilmmmjaaGreatDoorMFit0
import Derived.Lib.ItoaNum
import Derived.Lib.Replace
import Derived.Lib.RuneCount
namespace Go.Proofs.YtinndpnilmmmjaaGreatDoor

/-- Numbers as bytes. -/
def zb (l : List Int) : List UInt8 := l.map fun x => x.toNat.toUInt8

theorem zb_app (l m : List Int) : zb (l ++ m) = zb l ++ zb m := by simp [zb]

theorem dec_digits (u : Nat) : Lib.decDigits u = zb (decZ u) := by
  induction u using Nat.strongRecOn with
  | _ u ih =>
    by_cases h : u < 10
    · rw [Lib.decDigits, dif_pos h, decZ_small h]
      simp only [zb, List.map_cons, List.map_nil]
      rw [show (48 + (u : Int)).toNat = 48 + u by omega]
    · rw [Lib.decDigits, dif_neg h, decZ_big h, zb_app, ih (u / 10) (by omega)]
      simp only [zb, List.map_cons, List.map_nil]
      rw [show (48 + ((u % 10 : Nat) : Int)).toNat = 48 + u % 10 by omega]

theorem zb_digit {l : List Int} (h : ∀ x ∈ l, 48 ≤ x ∧ x ≤ 57) : ∀ b ∈ zb l, 48 ≤ b.toNat ∧ b.toNat ≤ 57 := by
  intro b hb
  obtain ⟨x, hx, rfl⟩ := List.mem_map.1 hb
  have := h x hx
  show 48 ≤ (UInt8.ofNat x.toNat).toNat ∧ _
  rw [UInt8.toNat_ofNat_of_lt' (by simp [UInt8.size]; omega)]
  omega

theorem index_none {l : List UInt8} (h : ∀ b ∈ l, 48 ≤ b.toNat ∧ b.toNat ≤ 57) : Lib.index l [45] = -1 := by
  induction l with
  | nil => rfl
  | cons b l ih =>
    have hb := h b (by simp)
    have hne : ¬ (45 : UInt8) = b := fun e => by rw [← e] at hb; exact absurd hb (by decide)
    rw [Lib.index, ih (fun x hx => h x (by simp [hx]))]
    simp [List.isPrefixOf, hne]

end Go.Proofs.YtinndpnilmmmjaaGreatDoor
