import Derived.Test.YtmgjicgojlkpcaaGreatDoorPrintMath
namespace Go.Proofs.YtmgjicgojlkpcaaGreatDoor
open Go

/-- How much longer the text grows. -/
def lenP (st : List UInt8 × Bool) : Nat := st.1.length

theorem say_len (st : List UInt8 × Bool) (s : List UInt8) (wd : Bool) : lenP st ≤ lenP (sayP st s wd) ∧ lenP (sayP st s wd) ≤ lenP st + 1 + s.length := by
  unfold lenP sayP
  simp only [List.length_append]
  split <;> simp only [List.length_cons, List.length_nil] <;> omega

/-- The looks are short. -/
structure Short (L : Looks) (ns : List NodeD) : Prop where
  sg : ∀ c, (L.sg c).length ≤ 4
  prim : ∀ n, (L.prim n).length ≤ 4
  num : ∀ z, (L.num z).length ≤ 40
  txt : ∀ i, i < ns.length → (L.txt (node ns i).s).length ≤ 4194304
  s : ∀ i, i < ns.length → (node ns i).s.size ≤ 1048576
  nums : ∀ i, i < ns.length → (node ns i).nums.length ≤ 1048576
  kids : ∀ i, i < ns.length → (node ns i).kids.length ≤ 1048576

section
variable {L : Looks} {ns : List NodeD}

theorem sayS_len (hs : Short L ns) (st : List UInt8 × Bool) (c : Nat) : lenP st ≤ lenP (sayS L st c) ∧ lenP (sayS L st c) ≤ lenP st + 5 := by
  have := say_len st (L.sg c) false
  have := hs.sg c
  unfold sayS
  omega

theorem list_len (hs : Short L ns) (g : Nat → List UInt8 × Bool → List UInt8 × Bool) (W : Nat → Nat) (c : Nat) (kids : List Int) (hg : ∀ q, q < kids.length → ∀ st, lenP st ≤ lenP (g (kids.getD q 0).toNat st) ∧ lenP (g (kids.getD q 0).toNat st) ≤ lenP st + W (kids.getD q 0).toNat) :
    ∀ k, k ≤ kids.length → ∀ st, lenP st ≤ lenP (listP L g c kids k st) ∧ lenP (listP L g c kids k st) ≤ lenP st + 5 * k + ((List.range k).map fun q => W (kids.getD q 0).toNat).sum
  | 0, _, st => by simp [listP]
  | k + 1, hk, st => by
    have ih := list_len hs g W c kids hg k (by omega) st
    have h1 := sayS_len hs (listP L g c kids k st) c
    rw [listP, List.range_succ, List.map_append, List.sum_append]
    simp only [List.map_cons, List.map_nil, List.sum_cons, List.sum_nil]
    by_cases h0 : 0 < k
    · rw [if_pos h0]
      have h2 := hg k (by omega) (sayS L (listP L g c kids k st) c)
      omega
    · rw [if_neg h0]
      have h2 := hg k (by omega) (listP L g c kids k st)
      omega

theorem nums_len (hs : Short L ns) : ∀ (zs : List Int) (st : List UInt8 × Bool), lenP st ≤ lenP (numsP L zs st) ∧ lenP (numsP L zs st) ≤ lenP st + 41 * zs.length
  | [], st => by simp [numsP]
  | z :: r, st => by
    have h1 := say_len st (L.num z) true
    have h2 := nums_len hs r (sayP st (L.num z) true)
    have h3 := hs.num z
    rw [numsP, List.length_cons]
    omega

end

/-- The stretches of kids add up. -/
theorem goK_sum {st : List (Nat × Nat)} {kids : List Int} (hst : ∀ j, j < st.length → (st.getD j (0, 0)).1 ≤ j) : ∀ (k a hi : Nat) (r : Nat × Nat), a ≤ st.length → goK st kids k a hi = some r →
    ((List.range k).map fun q => (kids.getD q 0).toNat + 1 - (st.getD (kids.getD q 0).toNat (0, 0)).1).sum = a - r.1
  | 0, a, hi, r, ha, h => by rw [goK] at h; cases h; simp
  | k + 1, a, hi, r, ha, h => by
    rw [goK] at h
    by_cases hc : 1 ≤ a ∧ kids.getD k 0 = (a : Int) - 1
    · rw [if_pos hc] at h
      have hle := hst (a - 1) (by omega)
      have ih := goK_sum hst k _ _ r (by omega) h
      have h1 := (goK_all hst k _ _ r (by omega) h).1
      rw [List.range_succ, List.map_append, List.sum_append, ih]
      have e : (kids.getD k 0).toNat = a - 1 := by omega
      simp only [List.map_cons, List.map_nil, List.sum_cons, List.sum_nil, e]
      omega
    · rw [if_neg hc] at h; cases h

end Go.Proofs.YtmgjicgojlkpcaaGreatDoor
