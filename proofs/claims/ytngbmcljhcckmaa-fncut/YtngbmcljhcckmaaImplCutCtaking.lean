import Derived.Test.YtngbmcljhcckmaaCutGath
import Derived.Test.YtngbmcljhcckmaaImplPlaceIn
import Derived.BigQuiet
namespace Go.Proofs.Ytngbmcljhcckmaa
open Go.RowKit Go.Shelf

theorem eg_cuttaking : ∀ args w, (callFunc 102 args).run Try.prog w = .ok (.enter 102 args) w := enters_of Try.func102 (by kernel_rfl) rfl

set_option maxHeartbeats 2000000 in
theorem cutClotaking (pf n cf : Nat) (gf : Option Addr) (st zs : List Int) (w : World) (hc : w.cell? ⟨pf, 0, none⟩ = some (.slice gf n cf)) (hr : Row w gf n st) (hb : ∀ k, k < n → -1000000000010000 ≤ st.getD k 0 ∧ st.getD k 0 ≤ 1000000000010000) (hz : zs.length = n) (hs : ∀ k, zs.getD k 0 ≤ 10000) :
    NumOk 102 #[.pointer (some ⟨pf, 0, none⟩)] (cutF st) zs n w := by
  intro D hD hDl k hk ib W hW hB
  have hd := hD k (by omega)
  have hsk := hs k
  have hbk := hb k hk
  have hc1 := (hW.cell (p := ⟨pf, 0, none⟩) (World.block_lt_of_cell? _ _ hc)).trans hc
  obtain ⟨bf, of, rfl, _, cf1⟩ := (hr.below (Nat.le_refl _) hW).get hk
  have cd := hB.cell (i := k) (by omega)
  obtain ⟨x, hx⟩ : ∃ x, D.getD k 0 = x := ⟨_, rfl⟩
  obtain ⟨y, hy⟩ : ∃ y, st.getD k 0 = y := ⟨_, rfl⟩
  rw [hx] at cd hd
  rw [hy] at cf1 hbk
  have HF : Hid (cutF st D k = y + x) := by show _ = _; unfold cutF; rw [hx, hy]
  have w1 : IntKind.i64.wrap (y + x) = y + x := by rw [IntKind.wrap_i64]; omega
  rw [hz]
  clear hW hB hD hDl hc hr hx hy hz hs hb
  go_enter Try.func102, Try.ntmps102
  go_wp2_with fail
  go_quiet (fail)
  go_wp2_with fail
  go_ret
  exact ⟨ret_int HF.out.symm, Below.drewN (Below.refl _ _) _⟩

end Go.Proofs.Ytngbmcljhcckmaa
