import Derived.Test.YtcjhbeljhmocbaaDoorRowMore
import Derived.Test.YtcjhbeljhmocbaaDoorMMath
namespace Go.Proofs.YtcjhbeljhmocbaaDoor
open Go.RowKit

/-- impl.axisFromEnd: the axis' length, 1 where it is not there. -/
theorem axisFromEnd_any (a : Option Addr) (n cap : Nat) (sh : List Int) (k : Nat) (w : World) (h : Row w a n sh) (hk : 1 ≤ k) (hk2 : k ≤ 2) (hin : ∀ i, 0 ≤ sh.getD i 0) :
    Calls Tryd.prog 20 #[.slice a n cap, .int .i64 (k : Nat)] w fun e w' => e = .returned (.int .i64 (axisE sh k)) ∧ w' = w := by
  have hsm := h.small
  by_cases hlt : n < k
  · have hE : Hid (axisE sh k = 1) := by
      show _ = _
      unfold axisE
      rw [if_pos (by rw [h.len]; exact hlt)]
    clear h
    have hlti : (n : Int) < (k : Int) := by omega
    go_enter Tryd.func20, Tryd.ntmps20
    go_wp2_with fail
    go_ret
    exact ⟨by rw [unhide hE]; rfl, rfl⟩
  · obtain ⟨m, hm⟩ : ∃ m, n - k = m := ⟨_, rfl⟩
    have hE : Hid (((axisE sh k : Nat) : Int) = sh.getD m 0) := by
      show _ = _
      unfold axisE
      rw [if_neg (by rw [h.len]; exact hlt), h.len, hm]
      have := hin m
      omega
    obtain ⟨b, o, rfl, -, hc⟩ := h.get (show m < n by omega)
    obtain ⟨x, hx⟩ : ∃ x, sh.getD m 0 = x := ⟨_, rfl⟩
    rw [hx] at hc
    have hX := hide hx
    clear h hx
    have hlti : ¬ (n : Int) < (k : Int) := by omega
    have hmi : (n : Int) - (k : Int) = (m : Int) := by omega
    have hmn : (m : Int) < (n : Int) := by omega
    clear hm hlt
    go_enter Tryd.func20, Tryd.ntmps20
    go_wp2_with fail
    go_ret
    exact ⟨by rw [unhide hE, unhide hX]; rfl, rfl⟩

end Go.Proofs.YtcjhbeljhmocbaaDoor
