import Derived.Test.YtkgcmpmgaghdhaaGreatDoorRepMore
namespace Go.Proofs.YtkgcmpmgaghdhaaGreatDoor

theorem getD_nat_map (I : List Nat) (j : Nat) (h : j < I.length) : (I.map fun (n : Nat) => (n : Int) + 1).getD j 0 - 1 = ((I.getD j 0 : Nat) : Int) := by
  simp [List.getD, h]

theorem set_axis {zs : List Int} {fl : Bool} (hne : zs ≠ []) (x : Int) : prodAll (zs.set (repAx zs fl) x) = axisB zs fl * x * axisA zs fl := by
  have hl : 0 < zs.length := List.length_pos_iff.mpr hne
  have hat : repAx zs fl < zs.length := by unfold repAx; split <;> omega
  have e0 : repAx zs fl = axisAt zs fl := by unfold repAx axisAt; rfl
  have hne' : zs.set (repAx zs fl) x ≠ [] := by intro e; have := congrArg List.length e; simp at this; exact hne this
  have h := axis_all (zs.set (repAx zs fl) x) fl hne'
  have ea : axisAt (zs.set (repAx zs fl) x) fl = axisAt zs fl := by unfold axisAt; simp
  rw [← h]
  unfold axisB axisN axisA
  rw [ea, ← e0]
  have h1 : (zs.set (repAx zs fl) x).take (repAx zs fl) = zs.take (repAx zs fl) := by rw [List.take_set_of_le (Nat.le_refl _)]
  have h2 : (zs.set (repAx zs fl) x).drop (repAx zs fl + 1) = zs.drop (repAx zs fl + 1) := by rw [List.drop_set_of_lt (by omega)]
  have h3 : (zs.set (repAx zs fl) x).getD (repAx zs fl) 0 = x := by simp [List.getD, hat]
  rw [h1, h2, h3]

theorem repAll_none (dt dt' : List Int) (n A B : Nat) : repAll dt dt' n A 0 B = [] := by
  induction B with
  | zero => rfl
  | succ B ih => simp [repAll, repLine, ih]

theorem rep_vals {d : Bool} {dt dt' zs : List Int} {fl : Bool} {B L A m N : Nat} (hne : zs ≠ []) (hax : AxisIs zs fl B L A) (hprod : B * L * A = dt'.length) (hmL : 0 < m → 0 < L)
    (hS : shapeB (zs.set (repAx zs fl) ((repIdx dt L m).length : Int)) = true) (hN : prodAll (zs.set (repAx zs fl) ((repIdx dt L m).length : Int)) = (N : Int)) :
    repAll dt dt' L A m B = vals (gatherAt d zs dt' (idxF (repAx zs fl) (repIdx dt L m)) (zs.set (repAx zs fl) ((repIdx dt L m).length : Int))) N := by
  have hl : 0 < zs.length := List.length_pos_iff.mpr hne
  have hat : repAx zs fl < zs.length := by unfold repAx; split <;> omega
  have hNe : (N : Int) = B * ((repIdx dt L m).length : Int) * A := by rw [← hN, set_axis hne, hax.b, hax.a]
  have hNn : N = B * ((repIdx dt L m).length * A) := by rw [← Nat.mul_assoc]; exact_mod_cast hNe
  rcases Nat.eq_zero_or_pos m with h0 | h0
  · subst h0
    rw [repAll_none]
    have : N = 0 := by rw [hNn]; simp [repIdx]
    rw [this]
    rfl
  · have hL := hmL h0
    rw [repAll_at hL hprod, ← hNn]
    unfold vals
    refine map_range_eq fun t ht => ?_
    have hf : Full (zs.set (repAx zs fl) ((repIdx dt L m).length : Int)) := full_of (shapeB_in hS).1 (by rw [hN]; omega)
    have e0 : repAx zs fl = axisAt zs fl := by unfold repAx axisAt; rfl
    have hn : zs.getD (repAx zs fl) 0 = (L : Int) := by rw [e0]; exact hax.l
    have hA : prodAll (zs.drop (repAx zs fl + 1)) = (A : Int) := by rw [e0]; exact hax.a
    rw [idx_gather (d := d) (dt' := dt') hat hn hA (fun s hs => by
      refine repIdx_lt (dt := dt) hL m _ ?_
      simp only [List.getD, List.getElem?_eq_getElem hs, Option.getD_some]
      exact List.getElem_mem hs) hf t (by rw [hN]; exact_mod_cast ht)]

end Go.Proofs.YtkgcmpmgaghdhaaGreatDoor
