import Derived.Test.YtgjpchnkodnieaaGreatDoorImplOp
namespace Go.Proofs.YtgjpchnkodnieaaGreatDoor
open Go.RowKit Go.Shelf

set_option maxHeartbeats 4000000 in
theorem operationOf_any (k : Nat) (ga gb : Addr) (w : World) (hG : Gl w ga gb) (hk : 1 ≤ k ∧ k ≤ 16) : Calls Tryz.prog 186 #[.int .i64 (k : Nat)] w fun e w' => ∃ v, e = .returned v ∧ OpIs ga gb (twoOf k) v w' ∧ Below w.heap.size w w' := by
  obtain ⟨v, hv⟩ : ∃ v, (opTab w.heap.size (w.heap.size + 1))[k]? = some v := ⟨_, Array.getElem?_eq_getElem (by show k < 17; omega)⟩
  have HV := hide hv
  have HG := hide hG
  have HK := hide hk
  obtain ⟨hk1, hk2⟩ := hk
  have hc : (((w.alloc (.cells #[.func (.func 256) #[] #[]] 91)).alloc (.cells #[.func (.func 257) #[] #[]] 91)).alloc (.cells (opTab w.heap.size (w.heap.size + 1)) 207)).cell? ⟨w.heap.size + 1 + 1, k, none⟩ = some v := by
    rw [cell_of_row _ _ k (opTab w.heap.size (w.heap.size + 1)) 207 (0, 0) (by simpa using heap_alloc_last ((w.alloc (.cells #[.func (.func 256) #[] #[]] 91)).alloc (.cells #[.func (.func 257) #[] #[]] 91)) (.cells (opTab w.heap.size (w.heap.size + 1)) 207))]
    exact hv
  unfold opTab at hc
  clear hv hG
  go_enter Tryz.func186, Tryz.ntmps186
  go_wp2_with fail
  refine (ofTruths_any _ (.inl rfl) _).mono ?_
  rintro e w1 ⟨rfl, rfl⟩
  go_wp2_with fail
  refine (ofTruths_any _ (.inr rfl) _).mono ?_
  rintro e w1 ⟨rfl, rfl⟩
  go_wp2
  go_ret
  refine ⟨v, rfl, ?_, (((Below.refl _ _).alloc (Nat.le_refl _) _).alloc (by simp) _).alloc (by simp; omega) _⟩
  have hA := Below.refl (w.heap.size + 1) (w.alloc (.cells #[.func (.func 256) #[] #[]] 91))
  have hA2 := (hA.alloc (by simp) (.cells #[.func (.func 257) #[] #[]] 91)).alloc (by simp) (.cells (opTab w.heap.size (w.heap.size + 1)) 207)
  have hB2 := (Below.refl (w.heap.size + 2) ((w.alloc (.cells #[.func (.func 256) #[] #[]] 91)).alloc (.cells #[.func (.func 257) #[] #[]] 91))).alloc (by simp) (.cells (opTab w.heap.size (w.heap.size + 1)) 207)
  have hp := (hA2.cell (p := ⟨w.heap.size, 0, none⟩) (by simp)).trans (cell_of_row _ _ 0 _ _ (0, 0) (heap_alloc_last w _))
  have hq := (hB2.cell (p := ⟨w.heap.size + 1, 0, none⟩) (by simp)).trans (cell_of_row _ _ 0 _ _ (0, 0) (by simpa using heap_alloc_last (w.alloc (.cells #[.func (.func 256) #[] #[]] 91)) (.cells #[.func (.func 257) #[] #[]] 91)))
  exact opTab_is ga gb w.heap.size (w.heap.size + 1) k v _ ((((unhide HG).alloc _).alloc _).alloc _) (unhide HK) (unhide HV) hp hq

theorem opIn_nat {op : Int} (h : opIn op = true) : ∃ k : Nat, op = k ∧ 1 ≤ k ∧ k ≤ 16 := by
  have := of_decide_eq_true h
  exact ⟨op.toNat, by omega, by omega, by omega⟩

theorem operationOf_eq (op : Int) (ga gb : Addr) (w : World) (hG : Gl w ga gb) (h : opIn op = true) : Calls Tryz.prog 186 #[.int .i64 op] w fun e w' => ∃ v, e = .returned v ∧ OpIs ga gb (twoOf op) v w' ∧ Below w.heap.size w w' := by
  obtain ⟨k, rfl, hk⟩ := opIn_nat h
  exact operationOf_any k ga gb w hG hk

/-- What operationOn's answer gives of two elements. -/
def elemFn (op : Int) (c d : Bool) (x y : Int) : Int × Int := if c ≠ d then (truth (decide (op = 10)), 0) else twoOf op x y

set_option maxHeartbeats 400000 in
theorem clo77 (op : Int) (ga gb : Addr) (p : Nat) (v : Value) (x y : Int) (W : World) (hv : OpIs ga gb (twoOf op) v W) (hop : opEq op = true) (hc : W.cell? ⟨p, 0, none⟩ = some v) : Calls Tryz.prog 187 #[.int .i64 x, .int .i64 y, .pointer (some ⟨p, 0, none⟩)] W (GivesEl ga gb (truth (decide (op = 10)), 0) W) := by
  obtain ⟨g, lb, rfl, eg, hcall⟩ := hv
  have h01 := hcall W 0 1 (Below.refl _ _) (by omega) (by omega)
  have he : twoOf op 0 1 = (truth (decide (op = 10)), 0) := by
    have := of_decide_eq_true hop
    rcases this with rfl | rfl <;> rfl
  rw [he] at h01
  have HC := hide h01
  clear h01 hcall he hop
  obtain ⟨t, ht⟩ : ∃ t, truth (decide (op = 10)) = t := ⟨_, rfl⟩
  rw [ht] at HC ⊢
  clear ht
  go_enter Tryz.func187, Tryz.ntmps187
  go_wp2_with (go_at_fn g; refine (unhide HC).mono ?_; rintro e w1 ⟨rfl, q, rfl⟩; simp only [errV_0])
  go_ret2
  exact gives_el (c := 0) rfl rfl

/-- What operationOn answers. -/
def OnIs (ga gb : Addr) (op : Int) (c d : Bool) (v : Value) (w : World) : Prop := ((c || d) = true ∧ opEq op = false ∧ v = .nilFunc) ∨ (¬ ((c || d) = true ∧ opEq op = false) ∧ OpIs ga gb (elemFn op c d) v w)

end Go.Proofs.YtgjpchnkodnieaaGreatDoor
