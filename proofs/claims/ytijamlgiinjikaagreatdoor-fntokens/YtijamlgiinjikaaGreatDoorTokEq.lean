import Derived.Test.YtijamlgiinjikaaGreatDoorTokRow
import Derived.Deep.RegionHeld
import Derived.BigQuiet
namespace Go.Proofs.YtijamlgiinjikaaGreatDoor
open Go.RowKit

set_option maxRecDepth 20000 in
set_option maxHeartbeats 1000000 in
theorem eqToken_refl (k n : Int) (t : ByteArray) (p : Nat) (w : World) :
    Calls Tryz.prog 17 #[.agg #[.int .i64 k, .int .i64 n, .string t, .int .i64 (p : Nat)], .agg #[.int .i64 k, .int .i64 n, .string t, .int .i64 (p : Nat)]] w fun e w' => e = .returned (.bool true) ∧ Below w.heap.size w w' := by
  go_enter Tryz.func17, Tryz.ntmps17
  go_wp2
  go_ret
  refine ⟨rfl, ?_⟩
  exact ((Below.refl _ _).alloc (Nat.le_refl _) _).alloc (by simp) _

set_option maxRecDepth 20000 in
set_option maxHeartbeats 4000000 in
theorem eqTokenS_refl (a b : Option Addr) (n c d : Nat) (ts : List Tok) (w : World) (h : RowT w a n ts) (k : RowT w b n ts) (hn : n ≤ 1048576) :
    Calls Tryz.prog 7 #[.slice a n c, .slice b n d] w fun e w' => e = .returned (.bool true) ∧ Below w.heap.size w w' := by
  have H := hide h
  have K := hide k
  clear h k
  have hnn : ((n : Int) != (n : Int)) = false := by simp
  go_enter Tryz.func7, Tryz.ntmps7
  go_wp2_with fail
  go_loopw [5] (fun i wr => ∃ k : Nat, k ≤ n ∧ i = .int .i64 k ∧ Hid (Below w.heap.size w wr)) (fun i _ => n - (intOf i).toNat)
  case atStart => exact ⟨0, Nat.zero_le _, rfl, Below.refl _ _⟩
  case round =>
    obtain ⟨k, hk, rfl, HB⟩ := hrel
    by_cases hlt : k < n
    · obtain ⟨p1, o1, t1, rfl, hl1, e1, x1, x2, x3, x4⟩ := ((unhide H).below (Nat.le_refl _) (unhide HB)).get hlt
      obtain ⟨p2, o2, t2, rfl, hl2, e2, y1, y2, y3, y4⟩ := ((unhide K).below (Nat.le_refl _) (unhide HB)).get hlt
      obtain rfl : t1 = t2 := Option.some.inj (e1.symm.trans e2)
      obtain ⟨tk, tn, tt, tp⟩ := t1
      clear e1 e2
      have HE := hide (fun W => eqToken_refl tk tn tt tp W)
      go_wp2_with fail
      go_region_with (go_at_call 17; refine (unhide HE _).mono ?_; rintro e w1 ⟨rfl, hb1⟩; have HB1 := hide ((unhide HB).trans ((((Below.refl _ _).drew).trans hb1).mono (unhide HB).size)); clear hb1)
      all_goals go_wp2_with fail
      all_goals (go_roundw; (case rel => exact ⟨k + 1, by omega, by go_num, unhide HB1⟩); (case measure => simp [intOf]; omega))
    · have hkn : k = n := by omega
      subst hkn
      go_wp2
      go_ret
      exact ⟨rfl, unhide HB⟩

end Go.Proofs.YtijamlgiinjikaaGreatDoor
