import Derived.Test.YtlnangnimbgpoaaShelfStable
import Derived.Test.YtlnangnimbgpoaaMGr
import Derived.Test.YtlnangnimbgpoaaImplUpTo
import Derived.BigQuiet
namespace Go.Proofs.Ytlnangnimbgpoaa
open Go.RowKit

def cmpI (x y : Int) : Int := if x < y then -1 else if y < x then 1 else 0

theorem isNaN_eq (x : Int) (w : World) : Calls Try.prog 80 #[.int .i64 x] w fun e w' => e = .returned (.bool false) ∧ w' = w := by
  have h : (x != x) = false := by simp
  go_enter Try.func80, Try.ntmps80
  go_wp2
  go_ret
  exact ⟨rfl, rfl⟩

theorem compare_eq (x y : Int) (w : World) : Calls Try.prog 38 #[.int .i64 x, .int .i64 y] w fun e w' => e = .returned (.int .i64 (cmpI x y)) ∧ w' = w := by
  by_cases h1 : x < y
  · have e : cmpI x y = -1 := by unfold cmpI; rw [if_pos h1]
    rw [e]
    clear e
    go_enter Try.func38, Try.ntmps38
    go_wp2_with (go_at_call 80; refine (isNaN_eq _ _).mono ?_; rintro e wx ⟨rfl, rfl⟩)
    go_ret
    exact ⟨rfl, rfl⟩
  · by_cases h2 : y < x
    · have e : cmpI x y = 1 := by unfold cmpI; rw [if_neg h1, if_pos h2]
      rw [e]
      clear e
      go_enter Try.func38, Try.ntmps38
      go_wp2_with (go_at_call 80; refine (isNaN_eq _ _).mono ?_; rintro e wx ⟨rfl, rfl⟩)
      go_ret
      exact ⟨rfl, rfl⟩
    · have e : cmpI x y = 0 := by unfold cmpI; rw [if_neg h1, if_neg h2]
      rw [e]
      clear e
      go_enter Try.func38, Try.ntmps38
      go_wp2_with (go_at_call 80; refine (isNaN_eq _ _).mono ?_; rintro e wx ⟨rfl, rfl⟩)
      go_ret
      exact ⟨rfl, rfl⟩

def gradeC (down : Bool) (dt : List Int) (p q : Int) : Int := if down then cmpI (dt.getD (q - 1).toNat 0) (dt.getD (p - 1).toNat 0) else cmpI (dt.getD (p - 1).toNat 0) (dt.getD (q - 1).toNat 0)

theorem grade_key (down : Bool) (dt : List Int) : CmpKey (gradeC down dt) (gradeK down dt) := fun p q => by
  unfold gradeC gradeK cmpI
  cases down
  · simp only [Bool.false_eq_true, if_false]
    split
    · omega
    · split <;> omega
  · simp only [if_true]
    split
    · omega
    · split <;> omega

set_option maxHeartbeats 2000000 in
theorem gradeClo (down : Bool) (pd pa : Nat) (c : Bool) (v1 : Value) (a2 : Option Addr) (n2 c2 : Nat) (dt : List Int) (W : World) (hd : W.cell? ⟨pd, 0, none⟩ = some (.bool down)) (hb : Box W pa c v1 (.slice a2 n2 c2)) (h2 : Row W a2 n2 dt) (p q : Int) (hp : 1 ≤ p ∧ p ≤ n2) (hq : 1 ≤ q ∧ q ≤ n2) (hn : n2 ≤ 10000) :
    Calls Try.prog 37 #[.int .i64 p, .int .i64 q, .pointer (some ⟨pd, 0, none⟩), .pointer (some ⟨pa, 0, none⟩)] W fun e w' => e = .returned (.int .i64 (gradeC down dt p q)) ∧ ∃ m, w' = W.drewN m := by
  obtain ⟨x, rfl⟩ : ∃ x : Nat, p = (x : Int) + 1 := ⟨(p - 1).toNat, by omega⟩
  obtain ⟨y, rfl⟩ : ∃ y : Nat, q = (y : Int) + 1 := ⟨(q - 1).toNat, by omega⟩
  have ex : (x : Int) + 1 - 1 = (x : Int) := by omega
  have ey : (y : Int) + 1 - 1 = (y : Int) := by omega
  have hxn : x < n2 := by omega
  have hyn : y < n2 := by omega
  have hxi : (x : Int) < (n2 : Int) := by omega
  have hyi : (y : Int) < (n2 : Int) := by omega
  obtain ⟨_, _, hc2⟩ := hb.cells
  obtain ⟨b, off, rfl, _, hcx⟩ := h2.get hxn
  obtain ⟨b', off', he, _, hcy⟩ := h2.get hyn
  cases he
  obtain ⟨u, hu⟩ : ∃ u, dt.getD x 0 = u := ⟨_, rfl⟩
  obtain ⟨v, hv⟩ : ∃ v, dt.getD y 0 = v := ⟨_, rfl⟩
  rw [hu] at hcx
  rw [hv] at hcy
  have HG : Hid (gradeC down dt ((x : Int) + 1) ((y : Int) + 1) = if down then cmpI v u else cmpI u v) := by
    show _ = _
    unfold gradeC
    rw [ex, ey, Int.toNat_natCast, Int.toNat_natCast, hu, hv]
  rw [unhide HG]
  clear HG hu hv hb h2 hp hq
  cases down with
  | true =>
    go_enter Try.func37, Try.ntmps37
    go_wp2_with fail
    go_quiet (first | (go_at_call 38; exact Calls.quiet_of_same (compare_eq _ _ _)))
    go_wp2
    go_ret
    exact ⟨rfl, _, rfl⟩
  | false =>
    go_enter Try.func37, Try.ntmps37
    go_wp2_with fail
    go_quiet (first | (go_at_call 38; exact Calls.quiet_of_same (compare_eq _ _ _)))
    go_wp2
    go_ret
    exact ⟨rfl, _, rfl⟩

theorem eg_grade : ∀ args w, (callFunc 37 args).run Try.prog w = .ok (.enter 37 args) w := enters_of Try.func37 (by kernel_rfl) rfl

end Go.Proofs.Ytlnangnimbgpoaa
