import Derived.Test.YtlnangnimbgpoaaRangeWhen
import Derived.Test.YtlnangnimbgpoaaImplArr
import Derived.Test.YtlnangnimbgpoaaMBase
import Derived.RangeFuncNested
import Derived.RangeFuncBound
import Derived.RangeFuncCalls
import Derived.RangeFuncLeaves
import Derived.Shelf.Abstract
import Derived.Shelf.RegionOpen
import Derived.WalkKit
import Derived.OwnWalkIn
import Derived.TacticsInMore
import Derived.LoopNIn
import Derived.LoopIn
namespace Go.Proofs.Ytlnangnimbgpoaa
open Go.RowKit Go.Shelf

attribute [local go_sem] Oper.semAt_some

theorem Backward_any (sa : Option Addr) (n cap : Nat) (w : World) : Calls Try.prog 111 #[.slice sa n cap] w fun e w' => e = .returned (.func (.func 119) #[] #[.pointer (some ⟨w.heap.size, 0, none⟩)]) ∧ w' = w.alloc (.cells #[.slice sa n cap] 22) := by
  go_enter Try.func111, Try.ntmps111
  go_wp2
  go_ret
  exact ⟨rfl, rfl⟩

theorem eg_back : ∀ args w, (callFunc 119 args).run Try.prog w = .ok (.enter 119 args) w := enters_of Try.func119 (by kernel_rfl) rfl

/-- The k-th round of slices.Backward: the place, and what lies there. -/
def backAr (n : Nat) (zs : List Int) (k : Nat) : Array Value := #[.int .i64 ((n - 1 - k : Nat) : Int), .int .i64 (zs.getD (n - 1 - k) 0)]

set_option maxRecDepth 100000 in
set_option maxHeartbeats 2000000 in
theorem back1_seq (m Bn : Nat) (sa : Option Addr) (n cap : Nat) (zs : List Int) (hsm : n ≤ 17592186044416) :
    SeqWhen m Try.prog 119 #[.pointer (some ⟨Bn, 0, none⟩)] n (backAr n zs) (fun A => A.cell? ⟨Bn, 0, none⟩ = some (.slice sa n cap) ∧ Row A sa n zs) := by
  intro l J W hJ hY h0
  have hbox := (hJ _ _ h0).1
  have HBOX : Hid (∀ k A, J k A → A.cell? ⟨Bn, 0, none⟩ = some (.slice sa n cap)) := fun k A h => (hJ _ _ h).1
  have HJ : Hid (∀ k A, J k A → Row A sa n zs) := fun k A h => (hJ _ _ h).2
  have HY : Hid (∀ k W1, k < n → J k W1 → YieldAt Fence.wide (m - 1) Try.prog l (backAr n zs k) W1 fun e W' => e = .returned (.bool true) ∧ J (k + 1) W') := hY
  have H0 := hide h0
  clear hJ hY h0
  refine callsIn_of_wp Try.func119 rfl trivial ?_ rfl
  simp only [Try.ntmps119, List.size_toArray, List.length_cons, List.length_nil, Nat.reduceAdd, Nat.reduceSub, Array.replicate_succ, Array.replicate_zero, List.push_toArray, List.append_toArray, List.nil_append, List.cons_append]
  gi_wp2
  gi_loopw [3] (fun i wr => ∃ k : Nat, k ≤ n ∧ i = .int .i64 ((n : Int) - 1 - (k : Nat)) ∧ Hid (J k wr)) (fun i _ => (intOf i + 1).toNat)
  case atStart => exact ⟨0, Nat.zero_le _, by go_num, H0⟩
  case round =>
    obtain ⟨k, hk, rfl, hj⟩ := hrel
    clear H0 hbox
    by_cases hlt : k < n
    · obtain ⟨j, hjn⟩ : ∃ j : Nat, j = n - 1 - k := ⟨_, rfl⟩
      have hji : (n : Int) - 1 - (k : Nat) = (j : Nat) := by omega
      have hjlt : j < n := by omega
      obtain ⟨b, off, rfl, hblt, hc⟩ := (HJ.out _ _ hj.out).get hjlt
      have hbx := HBOX.out _ _ hj.out
      obtain ⟨fn, tmps, assign, body, hy, hRr⟩ := HY.out k wr hlt hj.out
      obtain ⟨x, hx⟩ : ∃ x, x = zs.getD j 0 := ⟨_, rfl⟩
      unfold backAr at hy
      rw [← hjn, ← hx] at hy
      rw [← hx] at hc
      rw [hji]
      have HJN := hide hjn
      have HJI := hide hji
      clear hx hjn hji
      gi_wp2
      refine ⟨fun h => (by simp [Fence.wide] at h), hRr.mono ?_⟩
      rintro e W3 ⟨rfl, hJ3⟩
      have HJ3 := hide hJ3
      clear hRr hy hJ3 hc
      gi_wp2
      go_roundw
      case rel =>
        have := HJI.out
        exact ⟨k + 1, by omega, by go_num, HJ3⟩
      case measure =>
        have := HJI.out
        (simp [intOf] <;> omega)
    · have : k = n := by omega
      subst this
      have e1 : (k : Int) - 1 - (k : Nat) = -1 := by omega
      rw [e1]
      clear e1
      gi_wp2
      go_end0
      exact ⟨⟨_, rfl⟩, hj.out⟩

end Go.Proofs.Ytlnangnimbgpoaa
