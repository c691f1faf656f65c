import Derived.Test.YtkgcmpmgaghdhaaGreatDoorImplCatC
namespace Go.Proofs.YtkgcmpmgaghdhaaGreatDoor

theorem step_get {X : List Int} {n t : Nat} (hX : X.length = n) (ht : t = if n = 1 then 0 else 1) (k : Nat) (hk : k < X.length) : X.getD (k * t) 0 = X.getD k 0 := by
  by_cases h : n = 1
  · rw [if_pos h] at ht
    have : k = 0 := by omega
    subst this
    simp
  · rw [if_neg h] at ht
    rw [ht, Nat.mul_one]

theorem step_lt {n t : Nat} (ht : t = if n = 1 then 0 else 1) (k : Nat) (hk : k < n) : k * t < n := by
  by_cases h : n = 1
  · rw [if_pos h] at ht
    rw [ht]; omega
  · rw [if_neg h] at ht
    rw [ht]; omega

theorem cat_final {L R X Y ZS fr : List Int} {xn yn Bn p2 q2 M tx ty p1 : Nat} (hL : L = fr ++ [(xn : Int)]) (hR : R = fr ++ [(yn : Int)]) (hZ : ZS = fr ++ [((xn + yn : Nat) : Int)]) (hfl : fr.length = p1) (hLi : ShapeIn L) (hRi : ShapeIn R) (hpL : prodAll L = (p2 : Int)) (hpR : prodAll R = (q2 : Int)) (hX : X.length = p2) (hY : Y.length = q2) (hB : prodAll fr = (Bn : Int)) (hM : M = Bn * (xn + yn)) (htx : tx = if p2 = 1 then 0 else 1) (hty : ty = if q2 = 1 then 0 else 1) :
    putN ZS (moveF p1 xn) R (fun k => Y.getD (k * ty) 0) (putN ZS sameF L (fun k => X.getD (k * tx) 0) (List.replicate M 0) p2) q2 = catN X Y xn yn Bn := by
  have e1 : Bn * xn = p2 := by
    rw [hL, prodAll_append, hB] at hpL
    simp [prodAll] at hpL
    exact_mod_cast hpL
  have e2 : Bn * yn = q2 := by
    rw [hR, prodAll_append, hB] at hpR
    simp [prodAll] at hpR
    exact_mod_cast hpR
  have s1 : 0 < p2 → 0 < xn := fun h => by
    rcases Nat.eq_zero_or_pos xn with h0 | h0
    · rw [h0] at e1; simp at e1; omega
    · exact h0
  have s2 : 0 < q2 → 0 < yn := fun h => by
    rcases Nat.eq_zero_or_pos yn with h0 | h0
    · rw [h0] at e2; simp at e2; omega
    · exact h0
  have i1 : ∀ k : Nat, k < p2 → insideN ZS (meant ZS sameF (digits L k)) ZS.length = true ∧ place ZS (meant ZS sameF (digits L k)) = ((rowPlace xn (xn + yn) 0 k : Nat) : Int) := fun k hk => by
    rw [hZ, hL]
    exact place_longer (by omega) sameF (fun D i _ => rfl) (fun D => by simp [sameF]) (by rw [← hL]; exact full_of hLi (by rw [hpL]; omega)) k (by rw [← hL, hpL]; omega)
  have i2 : ∀ k : Nat, k < q2 → insideN ZS (meant ZS (moveF p1 xn) (digits R k)) ZS.length = true ∧ place ZS (meant ZS (moveF p1 xn) (digits R k)) = ((rowPlace yn (xn + yn) xn k : Nat) : Int) := fun k hk => by
    rw [hZ, hR]
    exact place_longer (by omega) (moveF p1 xn) (fun D i hi => by unfold moveF; rw [if_neg (by omega)]) (fun D => by unfold moveF; rw [if_pos hfl]) (by rw [← hR]; exact full_of hRi (by rw [hpR]; omega)) k (by rw [← hR, hpR]; omega)
  rw [put_rows (M := M) s1 (by omega) (by simp) i1 p2 (Nat.le_refl _), put_rows (M := M) s2 (by omega) (by simp) i2 q2 (Nat.le_refl _), hM]
  have := put_both (X := X) (Y := Y) (l := List.replicate (Bn * (xn + yn)) 0) (x := xn) (y := yn) (B := Bn) (g1 := fun k => X.getD (k * tx) 0) (g2 := fun k => Y.getD (k * ty) 0) (by rw [e1, hX]) (by rw [e2, hY]) (fun k hk => step_get hX htx k hk) (fun k hk => step_get hY hty k hk)
  rw [hX, hY] at this
  exact this

end Go.Proofs.YtkgcmpmgaghdhaaGreatDoor
