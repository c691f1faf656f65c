import Derived.Test.YtmgjicgojlkpcaaGreatDoorSpecAtS
import Derived.Test.YtmgjicgojlkpcaaGreatDoorBalMath
namespace Go.Proofs.YtmgjicgojlkpcaaGreatDoor
open Go.RowKit

section
variable {Z w w0 w1 : World} {p i j q : Nat} {nd nd0 nd1 v : Value} {zs : List Int} {xs ys : List NodeC} {bx : List Nat} {ns : List NodeD} {ta : Option Addr} {tn tc : Nat} {ts : List Tok} {b b' g : Bool} {t : List NodeD}

/-- A token against the two brackets. -/
theorem SEnv.round (E : SEnv Z ta tn ts) {k : Nat} {y : Tok} (hy : tokA ts 0 k = y) : (decide (y.k = 4) && (y.t.toList == [40])) = decide ((seenT ts).cl k = 40) ∧ (decide (y.k = 4) && (y.t.toList == [41])) = decide ((seenT ts).cl k = 41) := by
  have h1 := seen_sign E.ok 0 k (c := 40) (by decide)
  have h2 := seen_sign E.ok 0 k (c := 41) (by decide)
  rw [hy, show (bstr (encZ ((40 : Nat) : Int))).toList = [40] by kernel_rfl] at h1
  rw [hy, show (bstr (encZ ((41 : Nat) : Int))).toList = [41] by kernel_rfl] at h2
  exact ⟨h1, h2⟩

set_option maxRecDepth 20000 in
set_option maxHeartbeats 8000000 in
theorem spCloses (E : SEnv Z ta tn ts) (h : SPS Z p ta tn tc b w (q + 1) nd xs) (hql : q < ts.length) (htl : ts.length ≤ 4096) (hiq : i < q) (hd : ∀ k, i < k → k ≤ q → dep (seenT ts) 40 41 i + 1 ≤ dep (seenT ts) 40 41 k) (he : dep (seenT ts) 40 41 (q + 1) = dep (seenT ts) 40 41 i) :
    Calls Tryz.prog 98 #[.pointer (some ⟨p, 0, none⟩), .int .i64 (i : Nat)] w fun e w' => e = .returned (.bool true) ∧ Below w.heap.size w w' := by
  have hqt : q < tn := by rw [← E.row.len]; exact hql
  obtain ⟨tb, off, _, rfl, hbl, _⟩ := E.row.get hqt
  have HTK : Hid (∀ k, k ≤ q → ∃ y : Tok, w.cell? ⟨tb, off + k * 4, none⟩ = some (.int .i64 y.k) ∧ w.cell? ⟨tb, off + k * 4 + 2, none⟩ = some (.string y.t) ∧ (decide (y.k = 4) && (y.t.toList == [40])) = decide ((seenT ts).cl k = 40) ∧ (decide (y.k = 4) && (y.t.toList == [41])) = decide ((seenT ts).cl k = 41)) := fun k hk => by
    obtain ⟨tb', off', y, e', hb', hy, a0, a1, a2, a3⟩ := E.row.get (j := k) (by omega)
    cases e'
    obtain ⟨r1, r2⟩ := E.round (tokA_in hy 0)
    exact ⟨y, (h.low.cell (p := ⟨tb, off + k * 4, none⟩) hbl).trans a0, (h.low.cell (p := ⟨tb, off + k * 4 + 2, none⟩) hbl).trans a2, r1, r2⟩
  have hbw : tb < w.heap.size := Nat.lt_of_lt_of_le hbl h.low.size
  obtain ⟨p0, p1, p2, p3, f0, f1, f2, f3, hpl⟩ := h.all
  have HD := hide hd
  have HE := hide he
  have hws : IntKind.i64.wrap ((q : Int) + 1 - 1) = (q : Int) := by rw [IntKind.wrap_i64]; omega
  have hws2 : IntKind.i64.wrap (q : Int) = (q : Int) := by rw [IntKind.wrap_i64]; omega
  have hcast : ((q + 1 : Nat) : Int) = (q : Int) + 1 := by omega
  rw [hcast] at p1
  clear h E hd he hbl hcast
  go_enter Tryz.func98, Tryz.ntmps98
  go_wp2_with fail
  go_loopw [5, 6] (fun u v wr => ∃ (k : Nat) (D : Int), u = .int .i64 D ∧ v = .int .i64 (k : Nat) ∧ i ≤ k ∧ k ≤ q ∧ 0 ≤ D ∧ D ≤ k ∧ Hid (D = dep (seenT ts) 40 41 k - dep (seenT ts) 40 41 i) ∧ wr = w) (fun _ v _ => q + 1 - (intOf v).toNat)
  case atStart => exact ⟨i, 0, rfl, rfl, Nat.le_refl _, by omega, by omega, by omega, by show (0 : Int) = _; omega, rfl⟩
  case round =>
    obtain ⟨k, D, rfl, rfl, hik, hkq, hD0, hDk, HDD, rfl⟩ := hrel
    obtain ⟨y, a0, a2, r1, r2⟩ := unhide HTK k hkq
    obtain ⟨yk, yn, yt, yp⟩ := y
    dsimp only at a0 a2 r1 r2
    have hk1 : (k : Int) < (q : Int) + 1 := by omega
    have hkt : (k : Int) < (tn : Int) := by omega
    have hkt2 : k < tn := by omega
    have hw1 : IntKind.i64.wrap ((k : Int) + 1) = (k : Int) + 1 := by rw [IntKind.wrap_i64]; omega
    have hstep : dep (seenT ts) 40 41 (k + 1) = dep (seenT ts) 40 41 k + (if (seenT ts).cl k = 40 then 1 else if (seenT ts).cl k = 41 then -1 else 0) := rfl
    have hDD := unhide HDD
    have hnext : (k < q → 1 ≤ dep (seenT ts) 40 41 (k + 1) - dep (seenT ts) 40 41 i) ∧ (k = q → dep (seenT ts) 40 41 (k + 1) - dep (seenT ts) 40 41 i = 0) := ⟨fun hlt => by have := unhide HD (k + 1) (by omega) (by omega); omega, fun e => by subst e; have := unhide HE; omega⟩
    by_cases c40 : (seenT ts).cl k = 40
    · rw [decide_eq_true c40] at r1
      rw [decide_eq_false (show ¬ (seenT ts).cl k = 41 by rw [c40]; decide)] at r2
      rw [if_pos c40] at hstep
      have e4 : yk = 4 := by have := (Bool.and_eq_true_iff.1 r1).1; exact of_decide_eq_true this
      subst e4
      have t40 : (yt.toList == [40]) = true := (Bool.and_eq_true_iff.1 r1).2
      have t41 : (yt.toList == [41]) = false := by simpa using r2
      have hlt : k < q := by rcases Nat.lt_or_eq_of_le hkq with h' | h'; exact h'; have := hnext.2 h'; omega
      have hwD : IntKind.i64.wrap (D + 1) = D + 1 := by rw [IntKind.wrap_i64]; omega
      have hz : (D + 1 == 0) = false := by rw [beq_eq_false_iff_ne]; omega
      have HD2 : Hid (D + 1 = dep (seenT ts) 40 41 (k + 1) - dep (seenT ts) 40 41 i) := by show _ = _; omega
      clear r1 r2 hstep hnext c40 HDD hDD
      go_wp2_with fail
      go_roundw
      case rel => exact ⟨k + 1, D + 1, rfl, rfl, by omega, by omega, by omega, by omega, HD2, trivial⟩
      case measure => simp [intOf]; omega
    rw [decide_eq_false c40] at r1
    rw [if_neg c40] at hstep
    by_cases c41 : (seenT ts).cl k = 41
    · rw [decide_eq_true c41] at r2
      rw [if_pos c41] at hstep
      have e4 : yk = 4 := by have := (Bool.and_eq_true_iff.1 r2).1; exact of_decide_eq_true this
      subst e4
      have t41 : (yt.toList == [41]) = true := (Bool.and_eq_true_iff.1 r2).2
      have t40 : (yt.toList == [40]) = false := by simpa using r1
      by_cases hkq' : k = q
      · have e0 := hnext.2 hkq'
        have hD1 : D = 1 := by omega
        subst hkq' hD1
        clear r1 r2 hstep hnext c40 c41 HDD hDD
        go_wp2_with fail
        go_ret
        exact ⟨rfl, Below.refl _ _⟩
      · have e1 := hnext.1 (by omega)
        have hwD : IntKind.i64.wrap (D - 1) = D - 1 := by rw [IntKind.wrap_i64]; omega
        have hz : (D - 1 == 0) = false := by rw [beq_eq_false_iff_ne]; omega
        have HD2 : Hid (D - 1 = dep (seenT ts) 40 41 (k + 1) - dep (seenT ts) 40 41 i) := by show _ = _; omega
        have hDp : 1 ≤ D - 1 := by omega
        clear r1 r2 hstep hnext c40 c41 HDD hDD e1
        go_wp2_with fail
        go_roundw
        case rel => exact ⟨k + 1, D - 1, rfl, rfl, by omega, by omega, by omega, by omega, HD2, trivial⟩
        case measure => simp [intOf]; omega
    rw [decide_eq_false c41] at r2
    rw [if_neg c41] at hstep
    have hlt : k < q := by rcases Nat.lt_or_eq_of_le hkq with h' | h'; exact h'; have := hnext.2 h'; have := unhide HD k (by omega) hkq; omega
    have e1 := hnext.1 hlt
    have hz : (D == 0) = false := by rw [beq_eq_false_iff_ne]; omega
    have HD2 : Hid (D = dep (seenT ts) 40 41 (k + 1) - dep (seenT ts) 40 41 i) := by show _ = _; omega
    clear hstep hnext c40 c41 HDD hDD e1
    by_cases e4 : yk = 4
    · subst e4
      have t40 : (yt.toList == [40]) = false := by simpa using r1
      have t41 : (yt.toList == [41]) = false := by simpa using r2
      clear r1 r2
      go_wp2_with fail
      go_roundw
      case rel => exact ⟨k + 1, D, rfl, rfl, by omega, by omega, by omega, by omega, HD2, trivial⟩
      case measure => simp [intOf]; omega
    · have n4 : (yk == 4) = false := by simpa using e4
      clear r1 r2 e4
      go_wp2_with fail
      go_roundw
      case rel => exact ⟨k + 1, D, rfl, rfl, by omega, by omega, by omega, by omega, HD2, trivial⟩
      case measure => simp [intOf]; omega

end
end Go.Proofs.YtmgjicgojlkpcaaGreatDoor
