import Derived.Test.YtinndpnilmmmjaaGreatDoorMFit2
import Derived.Test.YtinndpnilmmmjaaGreatDoorMFit1
namespace Go.Proofs.YtinndpnilmmmjaaGreatDoor
open Go.RowKit

theorem GrowB.one (Q : World) (x : Int) : GrowB Q (Q.alloc (.cells #[.int .u8 x] 5)) Q.heap.size 1 1 [x] := by
  refine ⟨⟨by simp, .inr ⟨Q.heap.size, 1, #[.int .u8 x], rfl, Nat.le_refl _, ?_, by simp, by unfold maxLen; omega, by simp, by simp⟩⟩, (Below.refl _ _).alloc (Nat.le_refl _) _⟩
  show (Q.heap.push _)[Q.heap.size]? = _
  simp

theorem qd_step {s : ByteArray} {k : Nat} (h : k < s.size) : qd (s.data.toList.take (k + 1)) = qd (s.data.toList.take k) ++ (if bt s k = 39 then [39, 39] else [UInt8.ofNat (bt s k)]) := by
  have hl : k < s.data.toList.length := by rw [← Lib.size_eq]; exact h
  have hb : s.data.toList[k] = UInt8.ofNat (bt s k) := by
    rw [bt_data h, List.getD_eq_getElem?_getD, List.getElem?_eq_getElem hl, Option.getD_some]
    simp
  rw [List.take_succ_eq_append_getElem hl]
  unfold qd
  rw [List.flatMap_append, hb]
  congr 1
  simp only [List.flatMap_cons, List.flatMap_nil, List.append_nil]
  have h256 := bt_lt s k
  by_cases h39 : bt s k = 39
  · rw [h39]; rfl
  · rw [if_neg h39, if_neg]
    intro e
    have := congrArg UInt8.toNat e
    rw [UInt8.toNat_ofNat'] at this
    exact h39 (by have h2 : (39 : UInt8).toNat = 39 := rfl; omega)

set_option maxRecDepth 20000 in
set_option maxHeartbeats 4000000 in
theorem l1Quote_any (s : ByteArray) (w : World) (hs : s.size ≤ 1048576) :
    Calls Tryz.prog 74 #[.string s] w fun e w' => e = .returned (.string ⟨(quoteL s.data.toList).toArray⟩) ∧ Below w.heap.size w w' := by
  have HG0 := hide (GrowB.one w 39)
  obtain ⟨i0, hii, hz0, hz1, hz2⟩ := info_parts info_byte
  go_enter Tryz.func74, Tryz.ntmps74
  go_wp2_with fail
  go_loopw [3, 4] (fun u e wr => ∃ (g cp k n : Nat), u = .slice (some ⟨g, 0, none⟩) n cp ∧ e = .int .i64 (k : Nat) ∧ k ≤ s.size ∧ n ≤ 2097153 ∧ Hid (GrowB w wr g cp n (uz (39 :: qd (s.data.toList.take k))))) (fun _ e _ => s.size - (intOf e).toNat)
  case atStart => exact ⟨w.heap.size, 1, 0, 1, rfl, rfl, Nat.zero_le _, by omega, HG0⟩
  case round =>
    obtain ⟨g, cp, k, n, rfl, rfl, hk, hn, HG⟩ := hrel
    clear HG0
    have HLOW := hide (unhide HG).low
    have hzr := (unhide HLOW).size
    have hnl : n = 1 + (qd (s.data.toList.take k)).length := by rw [← (unhide HG).len, uz_len]; simp; omega
    have hq2 := (qd_len (s.data.toList.take k)).1
    have hn2 : n ≤ 1 + 2 * k := by rw [List.length_take] at hq2; omega
    clear hnl hq2
    by_cases hlt : k < s.size
    case neg =>
      have hlti : ¬ (k : Int) < (s.size : Int) := by omega
      have HE : Hid (uz (39 :: qd (s.data.toList.take k)) ++ [39] = uz (quoteL s.data.toList)) := by
        show _ = _
        rw [List.take_of_length_le (by rw [← Lib.size_eq]; omega)]
        unfold quoteL qd uz
        simp
      go_wp2_with (first | (at_builtin; refine wpList_append_lies _ rfl _ _ 33 rfl w.heap.size 5 i0 (.int .u8 0) 1 1 Tryz.underlying33 hii hz0 hz1 hz2 rfl (by decide) _ _ _ rfl ((unhide HG).below ((Below.refl _ _).alloc (Nat.le_refl _) _)).own ⟨wr.heap.size, 0, none⟩ 1 1 ([39].map (Value.int .u8)) rfl rfl (RowB.new wr [39]).news (one_bytes _) (by omega) (by unfold maxLen; omega) (by omega) (by have := (unhide HG).low.size; simp; omega) (wr.heap.size + 1) (by simp) ?_; intro g' cap' w7 hown' hgrow hat hlt7; have HF7 := hide (GrowB.push ((unhide HG).below ((Below.refl _ _).alloc (Nat.le_refl _) _)) hown' hgrow); have HF8 : Hid (GrowB w w7 g' cap' (n + 1) (uz (quoteL s.data.toList))) := (by rw [← unhide HE]; exact unhide HF7); have hcv : (convert 33 9 (.slice (some ⟨g', 0, none⟩) (n + 1) cap')).run Tryz.prog w7 = .ok (.string ⟨(quoteL s.data.toList).toArray⟩) w7 := (by have hl8 := (unhide HF8).len; rw [uz_len] at hl8; have := conv_back (cap := cap') (w := w7) (b := g') (off := 0) (l := quoteL s.data.toList) (by rw [hl8]; exact (unhide HF8).row); rwa [hl8] at this); clear hgrow hat hown' hlt7 HF7))
      go_ret
      exact ⟨rfl, (unhide HF8).low⟩
    have hlti : (k : Int) < (s.size : Int) := by omega
    have hix := fun W => run_idx hlt W
    have hy8 := bt_lt s k
    have HQS := hide (qd_step hlt)
    obtain ⟨y, hy⟩ : ∃ y, bt s k = y := ⟨_, rfl⟩
    rw [hy] at hix hy8 HQS
    clear hy
    by_cases h39 : y = 39
    case pos =>
      subst h39
      have HE : Hid (uz (39 :: qd (s.data.toList.take k)) ++ [39] ++ [39] = uz (39 :: qd (s.data.toList.take (k + 1)))) := by
        show _ = _
        rw [unhide HQS, if_pos rfl]
        unfold uz
        simp
      go_wp2_with (first | (at_builtin; have hz9 := HF7; clear hz9; refine wpList_append_lies _ rfl _ _ 33 rfl w.heap.size 5 i0 (.int .u8 0) 1 1 Tryz.underlying33 hii hz0 hz1 hz2 rfl (by decide) _ _ _ rfl ((unhide HF7).below ((Below.refl _ _).alloc (Nat.le_refl _) _)).own ⟨w7.heap.size, 0, none⟩ 1 1 ([39].map (Value.int .u8)) rfl rfl (RowB.new w7 [39]).news (one_bytes _) (by omega) (by unfold maxLen; omega) (by omega) (by have := (unhide HF7).low.size; simp; omega) (w7.heap.size + 1) (by simp) ?_; intro g8 cap8 w8 hown' hgrow hat hlt7; have HF8 := hide (GrowB.push ((unhide HF7).below ((Below.refl _ _).alloc (Nat.le_refl _) _)) hown' hgrow); clear hgrow hat hown' hlt7) | (at_builtin; refine wpList_append_lies _ rfl _ _ 33 rfl w.heap.size 5 i0 (.int .u8 0) 1 1 Tryz.underlying33 hii hz0 hz1 hz2 rfl (by decide) _ _ _ rfl ((unhide HG).below ((Below.refl _ _).alloc (Nat.le_refl _) _)).own ⟨wr.heap.size, 0, none⟩ 1 1 ([39].map (Value.int .u8)) rfl rfl (RowB.new wr [39]).news (one_bytes _) (by omega) (by unfold maxLen; omega) (by omega) (by have := (unhide HG).low.size; simp; omega) (wr.heap.size + 1) (by simp) ?_; intro g' cap' w7 hown' hgrow hat hlt7; have HF7 := hide (GrowB.push ((unhide HG).below ((Below.refl _ _).alloc (Nat.le_refl _) _)) hown' hgrow); clear hgrow hat hown' hlt7))
      go_roundw
      case rel => exact ⟨g8, cap8, k + 1, n + 1 + 1, rfl, by go_num, by omega, by omega, by show GrowB _ _ _ _ _ _; rw [← unhide HE]; exact unhide HF8⟩
      case measure => simp [intOf]; omega
    have h39i : ¬ (y : Int) = 39 := by omega
    have HE : Hid (uz (39 :: qd (s.data.toList.take k)) ++ [(y : Int)] = uz (39 :: qd (s.data.toList.take (k + 1)))) := by
      show _ = _
      rw [unhide HQS, if_neg h39]
      unfold uz
      simp
      omega
    clear h39
    go_wp2_with (first | (at_builtin; refine wpList_append_lies _ rfl _ _ 33 rfl w.heap.size 5 i0 (.int .u8 0) 1 1 Tryz.underlying33 hii hz0 hz1 hz2 rfl (by decide) _ _ _ rfl ((unhide HG).below ((Below.refl _ _).alloc (Nat.le_refl _) _)).own ⟨wr.heap.size, 0, none⟩ 1 1 ([(y : Int)].map (Value.int .u8)) rfl rfl (RowB.new wr [(y : Int)]).news (one_bytes _) (by omega) (by unfold maxLen; omega) (by omega) (by have := (unhide HG).low.size; simp; omega) (wr.heap.size + 1) (by simp) ?_; intro g' cap' w7 hown' hgrow hat hlt7; have HF7 := hide (GrowB.push ((unhide HG).below ((Below.refl _ _).alloc (Nat.le_refl _) _)) hown' hgrow); clear hgrow hat hown' hlt7))
    go_roundw
    case rel => exact ⟨g', cap', k + 1, n + 1, rfl, by go_num, by omega, by omega, by show GrowB _ _ _ _ _ _; rw [← unhide HE]; exact unhide HF7⟩
    case measure => simp [intOf]; omega

end Go.Proofs.YtinndpnilmmmjaaGreatDoor
