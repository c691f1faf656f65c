import Derived.Test.YtgjpchnkodnieaaGreatDoorMFit2
import Derived.BigQuiet
namespace Go.Proofs.YtgjpchnkodnieaaGreatDoor
open Go.RowKit Go.Shelf

theorem eg_onAxis : ∀ args w, (callFunc 152 args).run Tryz.prog w = .ok (.enter 152 args) w := enters_of Tryz.func152 (by kernel_rfl) rfl

theorem onAxis_gives (a : Nat) (v : Value) (w : World) (g : Nat) (lb : Array Value) (hv : v = .func (.func g) #[] lb) :
    Calls Tryz.prog 64 #[.int .i64 (a : Nat), v] w fun e w' => e = .returned (.func (.func 152) #[] #[.pointer (some ⟨w.heap.size, 0, none⟩), .pointer (some ⟨w.heap.size + 1, 0, none⟩)]) ∧ w' = (w.alloc (.cells #[.int .i64 (a : Nat)] 3)).alloc (.cells #[v] 92) := by
  subst hv
  go_enter Tryz.func64, Tryz.ntmps64
  go_wp2
  go_ret
  exact ⟨rfl, rfl⟩

/-- Along axis a what h says, along all others the same. -/
def axisF (a : Nat) (h : Int → Int) (D : List Int) (k : Nat) : Int := if k = a then h (D.getD k 0) else D.getD k 0

set_option maxHeartbeats 2000000 in
theorem axisClo (zs : List Int) (r pa pf a g : Nat) (lb : Array Value) (eg : ∀ args w, (callFunc g args).run Tryz.prog w = .ok (.enter g args) w) (h : Int → Int) (w : World) (hr : r ≤ zs.length) (ha : a < zs.length)
    (h1 : w.cell? ⟨pa, 0, none⟩ = some (.int .i64 (a : Nat))) (h2 : w.cell? ⟨pf, 0, none⟩ = some (.func (.func g) #[] lb))
    (hm : ∀ v, 0 ≤ v → v < zs.getD a 0 → ∀ W, Below w.heap.size w W → Calls Tryz.prog g (#[.int .i64 v] ++ lb) W fun e w' => e = .returned (.int .i64 (h v)) ∧ ∃ q, w' = W.drewN q) :
    NumOk 152 #[.pointer (some ⟨pa, 0, none⟩), .pointer (some ⟨pf, 0, none⟩)] (axisF a h) zs r w := by
  intro D hD hDl k hk ib W hW hB
  have cd := hB.cell (i := k) (by omega)
  have hDk := hD k (by omega)
  have c1 := (hW.cell (p := ⟨pa, 0, none⟩) (World.block_lt_of_cell? _ _ h1)).trans h1
  have c2 := (hW.cell (p := ⟨pf, 0, none⟩) (World.block_lt_of_cell? _ _ h2)).trans h2
  obtain ⟨n, hn⟩ : ∃ n, zs.length = n := ⟨_, rfl⟩
  obtain ⟨v, hv⟩ : ∃ v, D.getD k 0 = v := ⟨_, rfl⟩
  have HF : Hid (axisF a h D k = if k = a then h v else v) := by show _ = _; unfold axisF; rw [hv]
  rw [hn] at hr ⊢
  rw [hv] at cd hDk
  have hkn : (k : Int) < (n : Int) := by omega
  by_cases hka : k = a
  · subst hka
    rw [if_pos rfl] at HF
    have hcall : ∀ q, Calls Tryz.prog g (#[.int .i64 v] ++ lb) (W.drewN q) fun e w' => e = .returned (.int .i64 (h v)) ∧ ∃ m, w' = (W.drewN q).drewN m := fun q => hm v hDk.1 hDk.2 _ (hW.trans (Below.drewN (Below.refl _ _) _))
    clear hD hDl hW hB hn hv h1 h2 hDk hm
    go_enter Tryz.func152, Tryz.ntmps152
    go_wp2_with fail
    go_quiet ((go_at_fn g; exact Calls.quiet_of (hcall _)))
    go_wp2_with fail
    go_ret
    exact ⟨ret_int HF.out.symm, Below.drewN (Below.refl _ _) _⟩
  · rw [if_neg hka] at HF
    have q : ((k : Int) == (a : Int)) = false := by simp; omega
    clear hka hD hDl hW hB hn hv h1 h2 hDk hm
    go_enter Tryz.func152, Tryz.ntmps152
    go_wp2_with fail
    go_ret
    exact ⟨ret_int HF.out.symm, Below.refl _ _⟩

end Go.Proofs.YtgjpchnkodnieaaGreatDoor
