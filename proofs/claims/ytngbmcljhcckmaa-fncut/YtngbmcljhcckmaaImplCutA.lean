import Derived.Test.YtngbmcljhcckmaaCutGath
import Derived.Test.YtngbmcljhcckmaaImplList5
namespace Go.Proofs.Ytngbmcljhcckmaa
open Go.RowKit

theorem codeList_bad1' {c d : Bool} {sh dt sh' dt' : List Int} (h : arrOk c sh dt = false) : codeList c d sh dt sh' dt' = 3 := by unfold codeList; rw [if_neg (by simp [h])]
theorem codeList_bad2' {c d : Bool} {sh dt sh' dt' : List Int} (h : arrOk d sh' dt' = false) : codeList c d sh dt sh' dt' = 3 := by unfold codeList; rw [if_neg (by simp [h])]
theorem codeList_ok' {c d : Bool} {sh dt sh' dt' : List Int} (h : arrOk c sh dt = true) (h' : arrOk d sh' dt' = true) : codeList c d sh dt sh' dt' = listCode c sh.length := by unfold codeList; rw [if_pos ⟨h, h'⟩]

section
variable {lim : Bool} {Z S : List Int → List Int → List Int} {c d : Bool} {sh dt sh' dt' : List Int}

theorem cut_5 (h1 : arrOk c sh dt = true) (h2 : arrOk d sh' dt' = true) (h0 : listCode c sh.length = 0) (h : (countedSh dt.length sh').length ≠ dt.length) : window lim Z S c d sh dt sh' dt' = noAns 5 := by
  refine window_code' h1 h2 5 ?_ (by omega)
  rw [counted_go h0]
  unfold countedSh at h
  by_cases e : sh' = []
  · rw [if_pos e] at h; simp at h
  · rw [if_neg e] at h
    rw [if_neg (fun h => e (List.length_eq_zero_iff.1 h)), if_pos (fun h' => h h'.symm)]

theorem cut_count (h0 : listCode c sh.length = 0) (h : (countedSh dt.length sh').length = dt.length) (h5 : dt.length ≤ 5) : countedCode c sh.length dt.length sh'.length = 0 := by
  rw [counted_go h0]
  unfold countedSh at h
  by_cases e : sh' = []
  · subst e; rw [if_pos (show ([] : List Int).length = 0 from rfl), if_neg (by omega)]
  · rw [if_neg e] at h
    rw [if_neg (fun h => e (List.length_eq_zero_iff.1 h)), if_neg (by omega)]

/-- Too many axes: only a scalar can have got them. -/
theorem cut_long (h1 : arrOk c sh dt = true) (h2 : arrOk d sh' dt' = true) (h0 : listCode c sh.length = 0) (h : (countedSh dt.length sh').length = dt.length) (h5 : 5 < dt.length) : window lim Z S c d sh dt sh' dt' = noAns 7 := by
  refine window_code' h1 h2 7 ?_ (by omega)
  rw [counted_go h0]
  unfold countedSh at h
  by_cases e : sh' = []
  · subst e; rw [if_pos (show ([] : List Int).length = 0 from rfl), if_pos h5]
  · rw [if_neg e] at h
    have := (shapeIn_of h2).2.2
    omega

theorem cut_go (h1 : arrOk c sh dt = true) (h2 : arrOk d sh' dt' = true) (h0 : listCode c sh.length = 0) (h : (countedSh dt.length sh').length = dt.length) (hz : shapeB (Z (countedSh dt.length sh') dt) = true) (hl : (Z (countedSh dt.length sh') dt).length = dt.length) :
    window lim Z S c d sh dt sh' dt' = ⟨d, Z (countedSh dt.length sh') dt, vals (gatherAt d (countedSh dt.length sh') dt' (cutF (S (countedSh dt.length sh') dt)) (Z (countedSh dt.length sh') dt)) (countOf (Z (countedSh dt.length sh') dt)).toNat, 0⟩ := by
  have h5 := (shapeB_in hz).2
  rw [hl] at h5
  have hc := shapeB_count hz
  rw [window_go h1 h2 (cut_count h0 h h5) (fun _ => hz) (countOf (Z (countedSh dt.length sh') dt)).toNat (by omega), cut_vals (by rw [hl, h])]
end

theorem drop_fits {d : Bool} {dt sh' dt' : List Int} (h2 : arrOk d sh' dt' = true) (h : (countedSh dt.length sh').length = dt.length) (h5 : dt.length ≤ 5) : shapeB (dropZ (countedSh dt.length sh') dt) = true := by
  have hin : ShapeIn (countedSh dt.length sh') := by unfold countedSh; split; exact (ones_in _).1; exact (shapeIn_of h2).1
  refine shapeB_of (shape_less hin (by rw [dropZ_len, h]) ?_) (by rw [dropZ_len]; exact h5)
  intro k hk
  have hc := hin.cell k
  rw [dropZ_get _ _ _ (by omega)]
  have ha : 0 ≤ absI (dt.getD k 0) := by unfold absI; split <;> omega
  split <;> omega

end Go.Proofs.Ytngbmcljhcckmaa
