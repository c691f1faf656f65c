import Derived.Test.YtkgcmpmgaghdhaaGreatDoorImplPut
import Derived.Test.YtkgcmpmgaghdhaaGreatDoorMFit0
import Derived.BigQuiet
namespace Go.Proofs.YtkgcmpmgaghdhaaGreatDoor
open Go.RowKit Go.Shelf

/-- The same element along each axis. -/
def sameF (D : List Int) (k : Nat) : Int := D.getD k 0
/-- Moved by x along axis a. -/
def moveF (a : Nat) (x : Int) (D : List Int) (k : Nat) : Int := if k = a then D.getD k 0 + x else D.getD k 0

theorem eg_cat1 : ∀ args w, (callFunc 107 args).run Tryz.prog w = .ok (.enter 107 args) w := enters_of Tryz.func107 (by kernel_rfl) rfl
theorem eg_cat2 : ∀ args w, (callFunc 108 args).run Tryz.prog w = .ok (.enter 108 args) w := enters_of Tryz.func108 (by kernel_rfl) rfl
theorem eg_axis1 : ∀ args w, (callFunc 128 args).run Tryz.prog w = .ok (.enter 128 args) w := enters_of Tryz.func128 (by kernel_rfl) rfl

set_option maxHeartbeats 1000000 in
theorem catClo1 (zs : List Int) (r gd : Nat) (hr : r ≤ zs.length) (w : World) : NumBut 107 #[] sameF zs r w gd := by
  intro D hD hDl k hk ib W hW hB
  have cd := hB.cell (i := k) (by omega)
  obtain ⟨n, hn⟩ : ∃ n, zs.length = n := ⟨_, rfl⟩
  obtain ⟨x, hx⟩ : ∃ x, D.getD k 0 = x := ⟨_, rfl⟩
  have HF : Hid (sameF D k = x) := hx
  rw [hn] at hr ⊢
  rw [hx] at cd
  have hkn : (k : Int) < (n : Int) := by omega
  clear hD hDl hW hB hn hx
  go_enter Tryz.func107, Tryz.ntmps107
  go_wp2_with fail
  go_ret
  exact ⟨ret_int HF.out.symm, Below.refl _ _⟩

set_option maxHeartbeats 1000000 in
theorem cat2_any (pw : Nat) (v x : Int) (W : World) (hc : W.cell? ⟨pw, 0, none⟩ = some (.int .i64 x)) (hv : 0 ≤ v ∧ v ≤ 10000) (hx : 0 ≤ x ∧ x ≤ 10000) :
    Calls Tryz.prog 108 #[.int .i64 v, .pointer (some ⟨pw, 0, none⟩)] W fun e w' => e = .returned (.int .i64 (v + x)) ∧ w' = W := by
  have h1 : IntKind.i64.wrap (v + x) = v + x := by rw [IntKind.wrap_i64]; omega
  go_enter Tryz.func108, Tryz.ntmps108
  go_wp2_with fail
  go_ret
  exact ⟨rfl, rfl⟩

set_option maxHeartbeats 2000000 in
/-- What onAxis makes of the second closure. -/
theorem catClo2 (zs : List Int) (r gd pa pf pw a : Nat) (x : Int) (hr : r ≤ zs.length) (w : World) (hzs : ShapeIn zs) (hx : 0 ≤ x ∧ x ≤ 10000)
    (h1 : w.cell? ⟨pa, 0, none⟩ = some (.int .i64 (a : Nat))) (h2 : w.cell? ⟨pf, 0, none⟩ = some (.func (.func 108) #[] #[.pointer (some ⟨pw, 0, none⟩)])) (h3 : w.cell? ⟨pw, 0, none⟩ = some (.int .i64 x)) (n1 : pa ≠ gd) (n2 : pf ≠ gd) (n3 : pw ≠ gd) :
    NumBut 128 #[.pointer (some ⟨pa, 0, none⟩), .pointer (some ⟨pf, 0, none⟩)] (moveF a x) zs r w gd := by
  intro D hD hDl k hk ib W hW hB
  have cd := hB.cell (i := k) (by omega)
  have hDk := hD k (by omega)
  have hsk := (hzs.cell k).2
  have c1 := (hW.cellAt (World.block_lt_of_cell? _ _ h1) n1).trans h1
  have c2 := (hW.cellAt (World.block_lt_of_cell? _ _ h2) n2).trans h2
  have c3 := (hW.cellAt (World.block_lt_of_cell? _ _ h3) n3).trans h3
  obtain ⟨n, hn⟩ : ∃ n, zs.length = n := ⟨_, rfl⟩
  obtain ⟨v, hv⟩ : ∃ v, D.getD k 0 = v := ⟨_, rfl⟩
  have HF : Hid (moveF a x D k = if k = a then v + x else v) := by show _ = _; unfold moveF; rw [hv]
  rw [hn] at hr ⊢
  rw [hv] at cd hDk
  have hkn : (k : Int) < (n : Int) := by omega
  have hvb : 0 ≤ v ∧ v ≤ 10000 := by omega
  clear hD hDl hW hB hn hv h1 h2 h3 hDk hsk
  by_cases hka : k = a
  · subst hka
    rw [if_pos rfl] at HF
    go_enter Tryz.func128, Tryz.ntmps128
    go_wp2_with fail
    go_quiet ((go_at_call 108; exact Calls.quiet_of_same (cat2_any pw v x _ (by first | exact c3 | simpa using c3) hvb hx)))
    go_wp2_with fail
    go_ret
    exact ⟨ret_int HF.out.symm, Below.drewN (Below.refl _ _) _⟩
  · rw [if_neg hka] at HF
    have q : ((k : Int) == (a : Int)) = false := by simp; omega
    clear hka
    go_enter Tryz.func128, Tryz.ntmps128
    go_wp2_with fail
    go_ret
    exact ⟨ret_int HF.out.symm, Below.refl _ _⟩

theorem onAxis_any (a : Nat) (v : Value) (w : World) (g : Nat) (lb : Array Value) (hv : v = .func (.func g) #[] lb) :
    Calls Tryz.prog 70 #[.int .i64 (a : Nat), v] w fun e w' => e = .returned (.func (.func 128) #[] #[.pointer (some ⟨w.heap.size, 0, none⟩), .pointer (some ⟨w.heap.size + 1, 0, none⟩)]) ∧ w' = (w.alloc (.cells #[.int .i64 (a : Nat)] 3)).alloc (.cells #[v] 58) := by
  subst hv
  go_enter Tryz.func70, Tryz.ntmps70
  go_wp2
  go_ret
  exact ⟨rfl, rfl⟩

end Go.Proofs.YtkgcmpmgaghdhaaGreatDoor
