import Derived.Test.YtogmcecnckgcpaaMFirst
import Derived.Test.YtogmcecnckgcpaaMFirst
namespace Go.Proofs.Ytogmcecnckgcpaa

/-- The code of an array that should have one number. -/
def singleCode (c : Bool) (n : Nat) : Int := if n ≠ 1 then 5 else if c then 3 else 0

/-- Where element t of the rotated array comes from. -/
def rotFrom (n A d t : Nat) : Nat := (t / A / n * n + (t / A % n + d) % n) * A + t % A

def rotAt (n A d : Nat) (dt : List Int) (t : Nat) : Int × Int := (dt.getD (rotFrom n A d t) 0, 0)

theorem rotFrom_at {n A d p i q : Nat} (hi : i < n) (hq : q < A) : rotFrom n A d ((p * n + i) * A + q) = (p * n + (i + d) % n) * A + q := by
  have hA : 0 < A := by omega
  have hn : 0 < n := by omega
  have e1 : ((p * n + i) * A + q) / A = p * n + i := by rw [Nat.add_comm, Nat.add_mul_div_right _ _ hA, Nat.div_eq_of_lt hq, Nat.zero_add]
  have e2 : ((p * n + i) * A + q) % A = q := by rw [Nat.add_comm, Nat.add_mul_mod_self_right, Nat.mod_eq_of_lt hq]
  have e3 : (p * n + i) / n = p := by rw [Nat.add_comm, Nat.add_mul_div_right _ _ hn, Nat.div_eq_of_lt hi, Nat.zero_add]
  have e4 : (p * n + i) % n = i := by rw [Nat.add_comm, Nat.add_mul_mod_self_right, Nat.mod_eq_of_lt hi]
  unfold rotFrom
  rw [e1, e2, e3, e4]

theorem three_lt {B n A p i q : Nat} (hp : p < B) (hi : i < n) (hq : q < A) : (p * n + i) * A + q < B * n * A := by
  have h1 : p * n + i + 1 ≤ B * n := by
    have : (p + 1) * n ≤ B * n := Nat.mul_le_mul_right n hp
    rw [Nat.add_mul, Nat.one_mul] at this
    omega
  have h2 : (p * n + i + 1) * A ≤ B * n * A := Nat.mul_le_mul_right A h1
  rw [Nat.add_mul, Nat.one_mul] at h2
  omega

def rotate (c d : Bool) (sh dt sh' dt' : List Int) (fl : Bool) : Ans :=
  if arrOk c sh dt = true ∧ arrOk d sh' dt' = true then
    if singleCode c dt.length ≠ 0 then noAns (singleCode c dt.length)
    else if sh' = [] ∨ dt' = [] then ⟨d, sh', dt', 0⟩
    else ⟨d, sh', vals (rotAt (axisN sh' fl).toNat (axisA sh' fl).toNat (modOf (axisN sh' fl) (dt.getD 0 0)).toNat dt') dt'.length, 0⟩
  else noAns 3

section
variable {c d fl : Bool} {sh dt sh' dt' : List Int}
theorem rotate_bad1 (h : arrOk c sh dt = false) : rotate c d sh dt sh' dt' fl = noAns 3 := by unfold rotate; rw [if_neg (by simp [h])]
theorem rotate_bad2 (h : arrOk d sh' dt' = false) : rotate c d sh dt sh' dt' fl = noAns 3 := by unfold rotate; rw [if_neg (by simp [h])]
theorem rotate_code (h1 : arrOk c sh dt = true) (h2 : arrOk d sh' dt' = true) (r : Int) (h : singleCode c dt.length = r) (hr : r ≠ 0) : rotate c d sh dt sh' dt' fl = noAns r := by
  unfold rotate; rw [if_pos ⟨h1, h2⟩, h, if_pos hr]
theorem rotate_none (h1 : arrOk c sh dt = true) (h2 : arrOk d sh' dt' = true) (h : singleCode c dt.length = 0) (h3 : sh' = [] ∨ dt' = []) : rotate c d sh dt sh' dt' fl = ⟨d, sh', dt', 0⟩ := by
  unfold rotate; rw [if_pos ⟨h1, h2⟩, if_neg (by simp [h]), if_pos h3]
theorem rotate_go (h1 : arrOk c sh dt = true) (h2 : arrOk d sh' dt' = true) (h : singleCode c dt.length = 0) (h3 : sh' ≠ []) (h4 : dt' ≠ []) (n A e : Nat) (hn : axisN sh' fl = n) (hA : axisA sh' fl = A) (he : modOf n (dt.getD 0 0) = e) : rotate c d sh dt sh' dt' fl = ⟨d, sh', vals (rotAt n A e dt') dt'.length, 0⟩ := by
  unfold rotate; rw [if_pos ⟨h1, h2⟩, if_neg (by simp [h]), if_neg (by rintro (h | h); exact h3 h; exact h4 h), hn, hA, he]; rfl
end

theorem modOf_pos {n : Nat} (hn : 0 < n) (b : Int) : 0 ≤ modOf n b ∧ modOf n b < n := by
  unfold modOf
  have h1 := Int.tmod_lt_of_pos b (by omega : (0 : Int) < n)
  have h2 : -(n : Int) < b.tmod n := Int.lt_tmod_of_pos b (by omega)
  rw [if_neg (by omega)]
  split
  · rename_i h
    have h3 : b.tmod n < 0 := by
      by_cases h4 : b.tmod n < 0
      · exact h4
      · exfalso; apply h.2; rw [decide_eq_false h4, decide_eq_false (by omega)]
    omega
  · rename_i h
    have : ¬ b.tmod n < 0 := by
      intro h4
      apply h
      refine ⟨by omega, ?_⟩
      rw [decide_eq_true h4, decide_eq_false (by omega)]; simp
    omega

end Go.Proofs.Ytogmcecnckgcpaa
