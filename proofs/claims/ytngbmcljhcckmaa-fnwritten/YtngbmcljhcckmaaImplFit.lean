import Derived.Test.YtngbmcljhcckmaaSliceEqual
import Derived.Test.YtngbmcljhcckmaaMMath
import Derived.Test.YtngbmcljhcckmaaMBase
namespace Go.Proofs.Ytngbmcljhcckmaa
open Go.RowKit

set_option maxRecDepth 20000 in
set_option maxHeartbeats 4000000 in
theorem fitCode_any (d : Bool) (b1 b2 : Addr) (m1 m2 d1 d2 : Nat) (z : Option Addr) (nz cz : Nat) (sh' dt' zs : List Int) (w : World) (k1 : Row w (some b1) m1 sh') (k2 : Row w (some b2) m2 dt') (hz : Row w z nz zs) :
    Calls Try.prog 89 #[.agg #[.bool d, .slice (some b1) m1 d1, .slice (some b2) m2 d2], .slice z nz cz] w fun e w' => e = .returned (.int .i64 (fitC zs sh' dt')) ∧ Below w.heap.size w w' := by
  have hs1 := k1.small
  have hs2 := k2.small
  have hs3 := hz.small
  have K1 := hide k1
  have HZ := hide hz
  have hl3 := hide k1.len
  have hl4 := hide k2.len
  have hlz := hide hz.len
  clear k1 k2 hz
  have HB : Hid (Below w.heap.size w (w.alloc (.cells #[.bool d, .slice (some b1) m1 d1, .slice (some b2) m2 d2] 26))) := (Below.refl _ _).alloc (Nat.le_refl _) _
  by_cases hm1 : m2 = 1
  · have HF : Hid (fitC zs sh' dt' = 0) := fit_one (by rw [unhide hl4]; exact hm1)
    have hq0 : ((m2 : Int) == 1) = true := by simp [hm1]
    clear hm1
    go_enter Try.func89, Try.ntmps89
    go_wp2
    go_ret
    exact ⟨ret_int (unhide HF).symm, unhide HB⟩
  have hq0 : ((m2 : Int) == 1) = false := by simp; omega
  obtain ⟨rs, hrs⟩ : ∃ r, decide (sh' = zs) = r := ⟨_, rfl⟩
  have HRS := hide hrs
  clear hrs
  go_enter Try.func89, Try.ntmps89
  go_wp2_with fail
  refine (Equal_eq _ _ _ _ _ _ sh' zs _ (by exact (unhide K1).alloc _) (by exact (unhide HZ).alloc _) rs HRS).mono ?_
  rintro e V ⟨rfl, qn, hV⟩
  have HV : Hid (Below w.heap.size w V) := by rw [hV]; exact Below.drewN (unhide HB) _
  have hbx : Box V w.heap.size d (.slice (some b1) m1 d1) (.slice (some b2) m2 d2) := (Box.new w d (.slice (some b1) m1 d1) (.slice (some b2) m2 d2)).below (Nat.le_refl _) (by rw [hV]; exact Below.drewN (Below.refl _ _) _)
  obtain ⟨y0, y1, y2, y3, y4, y5⟩ := hbx.free'
  clear hbx
  clear hV
  cases rs with
  | true =>
    have HF : Hid (fitC zs sh' dt' = 0) := fit_same (of_decide_eq_true (unhide HRS))
    go_wp2
    go_ret
    exact ⟨ret_int (unhide HF).symm, unhide HV⟩
  | false =>
    by_cases hr : m1 = nz
    · have HF : Hid (fitC zs sh' dt' = 5) := fit_len (by rw [unhide hl4]; exact hm1) (by rw [unhide hl3, unhide hlz]; exact hr) (of_decide_eq_false (unhide HRS))
      subst hr
      clear hm1
      go_wp2
      go_ret
      exact ⟨ret_int (unhide HF).symm, unhide HV⟩
    · have HF : Hid (fitC zs sh' dt' = 4) := fit_rank (by rw [unhide hl4]; exact hm1) (by rw [unhide hl3, unhide hlz]; exact hr)
      have hqr : ((m1 : Int) == (nz : Int)) = false := by simp; omega
      have hqs : ((m1 : Int) != (nz : Int)) = true := by simp; omega
      clear hm1 hr
      go_wp2
      go_ret
      exact ⟨ret_int (unhide HF).symm, unhide HV⟩

end Go.Proofs.Ytngbmcljhcckmaa
