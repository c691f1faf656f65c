import Derived.Test.YtgjpchnkodnieaaGreatDoorMFit0
import Derived.Test.YtgjpchnkodnieaaGreatDoorMFit0
namespace Go.Proofs.YtgjpchnkodnieaaGreatDoor
open Go.RowKit

set_option maxHeartbeats 1000000 in
theorem l5Index_any (a1 : Option Addr) (n c1 : Nat) (sh : List Int) (p : Int) (w : World) (h1 : Row w a1 n sh) (hn : n ≤ 10000) (hs : ∀ k, sh.getD k 0 ≤ 10000) (hf : Full sh) (hp : 0 ≤ p) (hp2 : p ≤ 10000) :
    Calls Tryz.prog 55 #[.slice a1 n c1, .int .i64 p] w fun e w' => e = .returned (.slice (some ⟨w.heap.size, 0, none⟩) n n) ∧ Blk w' w.heap.size (digits sh p) ∧ Below w.heap.size w w' := by
  have hl := hide h1.len
  have H1 := hide h1
  have HS := hide hs
  have HF := hide hf
  have hdl : (digits sh p).length = n := by rw [digits_len]; exact h1.len
  clear h1 hs hf
  obtain ⟨i0, hi, hz0, hz1, hz2⟩ := info_parts info_int
  go_enter Tryz.func55, Tryz.ntmps55
  go_wp2_with (at_make; refine wpList_make_full _ rfl _ _ 23 rfl w.heap.size 3 i0 (.int .i64 0) 1 Tryz.underlying23 hi hz0 hz1 _ _ _ _ n rfl rfl rfl rfl (by rw [hz2]; omega) (by unfold maxLen; omega) (Nat.le_refl _) ?_; intro w1 hown hgrow)
  have hblk : Blk w1 w.heap.size (List.replicate n 0 ++ (digits sh p).drop n) := Blk.of_owns (n := n) (base := w.heap.size) (by simpa [toList_madeCells_one, Value.cells, List.drop_of_length_le (Nat.le_of_eq hdl)] using hown)
  have hbel : Below w.heap.size w w1 := (Below.refl _ _).grown hgrow (Nat.le_refl _) (by simp)
  clear hown hgrow hi hz0 hz1 hz2
  have HBK := hide hblk
  have HBL := hide hbel
  have HDL := hide hdl
  clear hblk hbel hdl
  go_wp2
  go_loopw [1, 6] (fun q i wr => ∃ m : Nat, m ≤ n ∧ i = .int .i64 ((m : Int) - 1) ∧ q = .int .i64 (restN sh p (n - m)) ∧ Hid (Blk wr w.heap.size (List.replicate m 0 ++ (digits sh p).drop m)) ∧ Hid (Below w.heap.size w wr)) (fun _ i _ => (intOf i + 1).toNat)
  case atStart => exact ⟨n, Nat.le_refl _, by go_num, by simp [restN], HBK, HBL⟩
  case round =>
    obtain ⟨m, hm, rfl, rfl, hb, hbl⟩ := hrel
    clear HBK HBL w1
    rcases Nat.eq_zero_or_pos m with h0 | h0
    · subst h0
      go_wp2
      go_ret
      exact ⟨rfl, by simpa using unhide hb, unhide hbl⟩
    · obtain ⟨k, hk⟩ : ∃ k, m = k + 1 := ⟨m - 1, by omega⟩
      subst hk
      have hlt : k < n := by omega
      obtain ⟨b, off, rfl, hblt, hc⟩ := (unhide H1).get hlt
      have hcx := ((unhide hbl).cell (p := ⟨b, off + k, none⟩) hblt).trans hc
      have hsc := unhide HS k
      have hsp := unhide HF k (by rw [unhide hl]; exact hlt)
      have hr := restN_nn (unhide HF) hp (n - (k + 1)) (by rw [unhide hl]; omega)
      have e1 : sh.length - 1 - (n - (k + 1)) = k := by have := unhide hl; omega
      have HR : Hid (restN sh p (n - k) = restN sh p (n - (k + 1)) / sh.getD k 0) := by
        show _ = _
        have e : n - k = n - (k + 1) + 1 := by omega
        rw [e]
        show restN sh p (n - (k + 1)) / sh.getD (sh.length - 1 - (n - (k + 1))) 0 = _
        rw [e1]
      have HD : Hid ((digits sh p).getD k 0 = restN sh p (n - (k + 1)) % sh.getD k 0) := by
        show _ = _
        rw [digits_get sh p k (by rw [unhide hl]; exact hlt)]
        unfold digit
        have e3 : sh.length - 1 - k = n - (k + 1) := by have := unhide hl; omega
        rw [e3]
      obtain ⟨s, hse⟩ : ∃ s, s = sh.getD k 0 := ⟨_, rfl⟩
      obtain ⟨r, hre⟩ : ∃ r, r = restN sh p (n - (k + 1)) := ⟨_, rfl⟩
      rw [← hse] at hcx hsc hsp HR HD
      rw [← hre] at hr HR HD ⊢
      have hbc := (unhide hb).cell (i := k) (by simp; omega)
      have hbf := (unhide hb).free k
      clear hse hre hc e1
      go_wp2
      go_roundw
      case rel => exact ⟨k, by omega, by go_num, by rw [unhide HR], by rw [← drop_set (by rw [unhide HDL]; exact hlt), unhide HD]; exact (unhide hb).set k _, (unhide hbl).setCell (Nat.le_refl _) _⟩
      case measure => simp [intOf]

end Go.Proofs.YtgjpchnkodnieaaGreatDoor
