import Derived.Test.YtpondlabofeohaaDoorImplOne
import Derived.Laws.EntriesVeiled
import Derived.Deep.WholeRow
namespace Go.Proofs.YtpondlabofeohaaDoor
open Go.RowKit Go.Shelf

/-- What changeOf answers. -/
def chV (op : Int) : Value := if op = 1 then .func (.func 64) #[] #[] else if op = 2 then .func (.func 65) #[] #[] else if op = 3 then .func (.func 66) #[] #[]
  else if op = 7 then .func (.func 67) #[] #[] else if op = 17 then .func (.func 69) #[] #[] else .nilFunc

/-- The array of functions that changeOf lays. -/
def chTab : Array Value := #[.nilFunc, .func (.func 64) #[] #[], .func (.func 65) #[] #[], .func (.func 66) #[] #[], .nilFunc, .nilFunc, .nilFunc, .func (.func 67) #[] #[], .nilFunc, .nilFunc, .nilFunc, .nilFunc, .nilFunc, .nilFunc, .nilFunc, .nilFunc, .nilFunc, .func (.func 69) #[] #[]]

theorem chTab_at (w : World) (k : Nat) (h : k ≤ 17) : (w.alloc (.cells chTab 81)).cell? ⟨w.heap.size, k, none⟩ = some (chV k) := by
  rw [cell_of_row _ _ k chTab _ (0, 0) (heap_alloc_last w _)]
  have hk : k = 0 ∨ k = 1 ∨ k = 2 ∨ k = 3 ∨ k = 4 ∨ k = 5 ∨ k = 6 ∨ k = 7 ∨ k = 8 ∨ k = 9 ∨ k = 10 ∨ k = 11 ∨ k = 12 ∨ k = 13 ∨ k = 14 ∨ k = 15 ∨ k = 16 ∨ k = 17 := by omega
  rcases hk with rfl | rfl | rfl | rfl | rfl | rfl | rfl | rfl | rfl | rfl | rfl | rfl | rfl | rfl | rfl | rfl | rfl | rfl
  all_goals rfl

set_option maxHeartbeats 4000000 in
theorem changeOf_any (op : Int) (w : World) : Calls Tryd.prog 29 #[.int .i64 op] w fun e w' => e = .returned (chV op) ∧ Below w.heap.size w w' := by
  by_cases h : 0 ≤ op ∧ op ≤ 17
  · have HT : Hid (withinB op 0 17 = true) := decide_eq_true h
    obtain ⟨k, rfl⟩ : ∃ k : Nat, op = k := ⟨op.toNat, by omega⟩
    have hk : k ≤ 17 := by omega
    have hc := chTab_at w k hk
    unfold chTab at hc
    have HV : Hid (chV k = chV k) := rfl
    obtain ⟨v, hv⟩ : ∃ v, v = chV k := ⟨_, rfl⟩
    rw [← hv] at hc
    have HVV := hide hv
    clear h hv
    go_enter Tryd.func29, Tryd.ntmps29
    go_wp2_with (go_at_call 70; refine (isWithin_eq _ _ _ _ _ HT).mono ?_; rintro e w' ⟨rfl, rfl⟩)
    go_ret
    exact ⟨by rw [← HVV.out]; rfl, (Below.refl _ _).alloc (Nat.le_refl _) _⟩
  · have HT : Hid (withinB op 0 17 = false) := decide_eq_false h
    have HE : Hid (chV op = .nilFunc) := by
      show _ = _
      unfold chV
      rw [if_neg (by omega), if_neg (by omega), if_neg (by omega), if_neg (by omega), if_neg (by omega)]
    clear h
    go_enter Tryd.func29, Tryd.ntmps29
    go_wp2_with (go_at_call 70; refine (isWithin_eq _ _ _ _ _ HT).mono ?_; rintro e w' ⟨rfl, rfl⟩)
    go_ret
    exact ⟨by rw [HE.out]; rfl, (Below.refl _ _).alloc (Nat.le_refl _) _⟩

end Go.Proofs.YtpondlabofeohaaDoor
