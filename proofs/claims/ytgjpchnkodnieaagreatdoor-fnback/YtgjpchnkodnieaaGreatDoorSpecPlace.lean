import Derived.Test.YtgjpchnkodnieaaGreatDoorSpecIx
import Derived.Test.YtgjpchnkodnieaaGreatDoorMFit0
import Derived.Test.YtgjpchnkodnieaaGreatDoorMFit0
import Derived.Deep.QuietTactic
import Derived.BigQuiet
namespace Go.Proofs.YtgjpchnkodnieaaGreatDoor
open Go.RowKit

set_option maxHeartbeats 1000000 in
theorem l5At_any (a1 a2 : Option Addr) (n c1 c2 m : Nat) (sh ix : List Int) (w : World) (h1 : Row w a1 n sh) (h2 : Row w a2 m ix) (hm : n ≤ m) (hs : ShapeIn sh) (hi : IxIn sh ix) :
    Calls Tryz.prog 56 #[.slice a1 n c1, .slice a2 m c2] w fun e w' => e = .returned (.int .i64 (place sh ix)) ∧ Below w.heap.size w w' := by
  have hl := hide h1.len
  have hsm := h1.small
  have hsm2 := h2.small
  have H1 := hide h1
  have H2 := hide h2
  have HS := hide hs
  have HI := hide hi
  clear h1 h2 hs hi
  go_enter Tryz.func56, Tryz.ntmps56
  go_wp2
  go_loopw [5, 6] (fun p i wr => ∃ k : Nat, k ≤ n ∧ i = .int .i64 k ∧ p = .int .i64 (placeN sh ix k) ∧ Hid (Below w.heap.size w wr)) (fun _ i _ => n - (intOf i).toNat)
  case atStart => exact ⟨0, Nat.zero_le _, rfl, rfl, Below.refl _ _⟩
  case round =>
    obtain ⟨k, hk, rfl, rfl, hb⟩ := hrel
    by_cases hlt : k < n
    · obtain ⟨b, off, rfl, hblt, hc⟩ := (unhide H1).get hlt
      obtain ⟨b', off', rfl, hblt', hc'⟩ := (unhide H2).get (by omega : k < m)
      have hcx := ((unhide hb).cell (p := ⟨b, off + k, none⟩) hblt).trans hc
      have hcy := ((unhide hb).cell (p := ⟨b', off' + k, none⟩) hblt').trans hc'
      have hlm : k < m := by omega
      have hsc := (unhide HS).cell k
      have hic := unhide HI k (by rw [unhide hl]; exact hlt)
      have hpn := placeN_bd (unhide HI) k (by rw [unhide hl]; omega)
      have hpb := ((unhide HS).take k).bd
      obtain ⟨P, hP⟩ : ∃ P, P = placeN sh ix k := ⟨_, rfl⟩
      obtain ⟨s, hse⟩ : ∃ s, s = sh.getD k 0 := ⟨_, rfl⟩
      obtain ⟨i, hie⟩ : ∃ i, i = ix.getD k 0 := ⟨_, rfl⟩
      rw [← hP] at hpn ⊢
      rw [← hse] at hsc hic hcx
      rw [← hie] at hic hcy
      have hq0 : 0 ≤ P * s := Int.mul_nonneg hpn.1 hsc.1
      have hq1 : P * s ≤ 10000 * 10000 := Int.mul_le_mul (by omega) hsc.2 hsc.1 (by omega)
      have HN : Hid (placeN sh ix (k + 1) = P * s + i) := by rw [hP, hse, hie]; rfl
      obtain ⟨z, hz⟩ : ∃ z, z = P * s := ⟨_, rfl⟩
      rw [← hz] at hq0 hq1
      have HZ := hide hz
      have hw1 : IntKind.i64.wrap (P * s) = z := by rw [IntKind.wrap_i64, ← hz]; omega
      have hw2 : IntKind.i64.wrap (z + i) = z + i := by rw [IntKind.wrap_i64]; omega
      clear hP hse hie hz hpn hpb hc hc'
      go_wp2_with fail
      go_quiet (fail)
      go_wp2_with fail
      go_roundw
      case rel => exact ⟨k + 1, by omega, by go_num, by rw [unhide HN, ← unhide HZ], Below.drewN (unhide hb) nq⟩
      case measure => simp [intOf]; omega
    · have hkn : k = n := by omega
      subst hkn
      go_wp2
      go_ret
      refine ⟨ret_int ?_, unhide hb⟩
      unfold place
      rw [unhide hl]

end Go.Proofs.YtgjpchnkodnieaaGreatDoor
