import Derived.Test.YtadbhidpmihghaaImplLays
import Derived.Test.YtadbhidpmihghaaReachMath
namespace Go.Proofs.Ytadbhidpmihghaa
open Go.RowKit

theorem low_bd {sh st : List Int} (hs : ∀ k, 0 ≤ sh.getD k 0 ∧ sh.getD k 0 ≤ 10000) (ht : ∀ k, -10000 ≤ st.getD k 0 ∧ st.getD k 0 ≤ 10000) (k : Nat) : -(100000000 * (k : Int)) ≤ lowN sh st k ∧ lowN sh st k ≤ 0 ∧ 0 ≤ highN sh st k ∧ highN sh st k ≤ 100000000 * (k : Int) := by
  induction k with
  | zero => simp [lowN, highN]
  | succ k ih =>
    have h1 := hs k
    have h2 := ht k
    have h3 := mul_bd h2.1 h2.2 (show -10000 ≤ sh.getD k 0 - 1 by omega) (show sh.getD k 0 - 1 ≤ 10000 by omega)
    unfold lowN highN
    split <;> split <;> (push_cast; omega)

set_option maxRecDepth 20000 in
set_option maxHeartbeats 4000000 in
theorem reach_any (c : Int) (sh st : List Int) (hs : ∀ k, 0 ≤ sh.getD k 0 ∧ sh.getD k 0 ≤ 10000) (ht : ∀ k, -10000 ≤ st.getD k 0 ∧ st.getD k 0 ≤ 10000) (h5 : sh.length ≤ 5) (hc0 : -10000 ≤ c) (hc1 : c ≤ 10000) (f : Nat → Int) (hf : Hid (fl c sh st = f)) (w : World) :
    Calls Try.prog 41 #[lay f] w fun e w' => e = .returned (.tuple #[.int .i64 (c + lowN sh st sh.length), .int .i64 (c + highN sh st sh.length)]) ∧ Below w.heap.size w w' := by
  obtain ⟨n, hn⟩ : ∃ n, sh.length = n := ⟨_, rfl⟩
  rw [hn] at h5 ⊢
  have HB : Hid (Below w.heap.size w (w.alloc (objL f))) := (Below.refl _ _).alloc (Nat.le_refl _) _
  have HL := hide (LBox.new w f)
  have hc0' : (w.alloc (objL f)).cell? ⟨w.heap.size, 0, none⟩ = some (.int .i64 c) := by rw [(unhide HL).at (by omega), ← unhide hf, fl_0]
  have hc1' : (w.alloc (objL f)).cell? ⟨w.heap.size, 1, none⟩ = some (.int .i64 n) := by rw [(unhide HL).at (by omega), ← unhide hf, fl_1, hn]
  have hlt := (unhide HL).lt
  have h5i : (n : Int) ≤ 5 := by omega
  have h0i : (0 : Int) ≤ n := by omega
  have HSH := hide hs
  have HST := hide ht
  obtain ⟨W, hW⟩ : ∃ W, w.alloc (objL f) = W := ⟨_, rfl⟩
  rw [hW] at HB HL hc0' hc1' hlt
  have HWE := hide hW
  clear hs ht hn hW
  go_enter Try.func41, Try.ntmps41
  go_upto_region 1 with fail
  rw [unhide HWE]
  clear HWE
  go_quiet (fail)
  go_wp2_with fail
  go_loop [4, 5, 18] (fun a b i => ∃ (k : Nat) (lo hi : Int), k ≤ n ∧ i = .int .i64 k ∧ a = .int .i64 lo ∧ b = .int .i64 hi ∧ Hid (c + lowN sh st k = lo) ∧ Hid (c + highN sh st k = hi)) (fun _ _ i => n - (intOf i).toNat)
  case atStart => exact ⟨0, c, c, Nat.zero_le _, rfl, rfl, rfl, by show _ = _; simp [lowN], by show _ = _; simp [highN]⟩
  case round =>
    obtain ⟨k, lo, hi, hk, rfl, rfl, rfl, hlo, hhi⟩ := hrel
    have hbd := low_bd (unhide HSH) (unhide HST) k
    have hlo' := unhide hlo
    have hhi' := unhide hhi
    have hlb : -600000000 ≤ lo ∧ lo ≤ 10000 := by omega
    have hhb : -10000 ≤ hi ∧ hi ≤ 600000000 := by omega
    clear hbd hlo' hhi'
    by_cases hlt' : k < n
    · obtain ⟨x, hx⟩ : ∃ x, sh.getD k 0 = x := ⟨_, rfl⟩
      obtain ⟨y, hy⟩ : ∃ y, st.getD k 0 = y := ⟨_, rfl⟩
      have hcx : W.cell? ⟨w.heap.size, 2 + k, none⟩ = some (.int .i64 x) := by rw [(unhide HL).at (by omega), ← unhide hf, fl_len _ _ _ (by omega), hx]
      have hcy : W.cell? ⟨w.heap.size, 7 + k, none⟩ = some (.int .i64 y) := by rw [(unhide HL).at (by omega), ← unhide hf, fl_str, hy]
      have hxb := unhide HSH k
      have hyb := unhide HST k
      rw [hx] at hxb
      rw [hy] at hyb
      obtain ⟨z, hz⟩ : ∃ z, z = y * (x - 1) := ⟨_, rfl⟩
      have hzb : -100000000 ≤ z ∧ z ≤ 100000000 := by rw [hz]; exact mul_bd hyb.1 hyb.2 (by omega) (by omega)
      have hw1 : IntKind.i64.wrap (x - 1) = x - 1 := by rw [IntKind.wrap_i64]; omega
      have hw2 : IntKind.i64.wrap (y * (x - 1)) = z := by rw [← hz, IntKind.wrap_i64]; omega
      have hki : (k : Int) < 5 := by omega
      have hk0 : (0 : Int) ≤ k := by omega
      have HLO : Hid (c + lowN sh st (k + 1) = lo + (if z < 0 then z else 0)) := by show _ = _; unfold lowN; rw [hx, hy, ← hz, ← unhide hlo]; omega
      have HHI : Hid (c + highN sh st (k + 1) = hi + (if 0 < z then z else 0)) := by show _ = _; unfold highN; rw [hx, hy, ← hz, ← unhide hhi]; omega
      clear hx hy hz
      rcases Int.lt_trichotomy z 0 with h | h | h
      · have n1 : ¬ 0 < z := by omega
        rw [if_pos h] at HLO
        rw [if_neg n1, Int.add_zero] at HHI
        have hw3 : IntKind.i64.wrap (lo + z) = lo + z := by rw [IntKind.wrap_i64]; omega
        have hw4 : IntKind.i64.wrap (hi + 0) = hi := by rw [IntKind.wrap_i64]; omega
        have hw5 : IntKind.i64.wrap hi = hi := by rw [IntKind.wrap_i64]; omega
        go_wp2_with fail
        go_round
        case rel => exact ⟨k + 1, lo + z, hi, by omega, by go_num, rfl, rfl, HLO, HHI⟩
        case measure => simp [intOf]; omega
      · subst h
        rw [if_neg (by omega), Int.add_zero] at HLO
        rw [if_neg (by omega), Int.add_zero] at HHI
        have hw4 : IntKind.i64.wrap hi = hi := by rw [IntKind.wrap_i64]; omega
        have hw5 : IntKind.i64.wrap lo = lo := by rw [IntKind.wrap_i64]; omega
        go_wp2_with fail
        go_round
        case rel => exact ⟨k + 1, lo, hi, by omega, by go_num, rfl, rfl, HLO, HHI⟩
        case measure => simp [intOf]; omega
      · have n1 : ¬ z < 0 := by omega
        rw [if_neg n1, Int.add_zero] at HLO
        rw [if_pos h] at HHI
        have hw3 : IntKind.i64.wrap (hi + z) = hi + z := by rw [IntKind.wrap_i64]; omega
        have hw5 : IntKind.i64.wrap lo = lo := by rw [IntKind.wrap_i64]; omega
        go_wp2_with fail
        go_round
        case rel => exact ⟨k + 1, lo, hi + z, by omega, by go_num, rfl, rfl, HLO, HHI⟩
        case measure => simp [intOf]; omega
    · obtain rfl : k = n := by omega
      go_wp2_with fail
      refine bodyPost_ret (v := .tuple #[.int .i64 lo, .int .i64 hi]) (by simp [results, Try.results41, go_sem]) rfl ?_
      exact ⟨ret_two (unhide hlo).symm (unhide hhi).symm, Below.drewN (unhide HB) _⟩

end Go.Proofs.Ytadbhidpmihghaa
