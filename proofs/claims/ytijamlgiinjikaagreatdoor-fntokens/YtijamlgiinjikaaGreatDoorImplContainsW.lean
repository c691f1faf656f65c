import Derived.Test.YtijamlgiinjikaaGreatDoorImplContainsA
import Derived.Test.YtijamlgiinjikaaGreatDoorImplIndexRune
import Derived.Test.YtijamlgiinjikaaGreatDoorImplText
namespace Go.Proofs.YtijamlgiinjikaaGreatDoor
open Go.RowKit

theorem contains_some (s : ByteArray) (z : Int) (b : Bool) (W : World) (h : Calls Tryz.prog 65 #[.string s, .int .i32 z] W fun e w' => ∃ n : Int, e = .returned (.int .i64 n) ∧ decide (0 ≤ n) = b ∧ Below W.heap.size W w') :
    Calls Tryz.prog 52 #[.string s, .int .i32 z] W fun e w' => e = .returned (.bool b) ∧ Below W.heap.size W w' := by
  have H := hide h
  clear h
  go_enter Tryz.func52, Tryz.ntmps52
  go_wp2_with (go_at_call 65; refine (unhide H).mono ?_; rintro e w5 ⟨n, rfl, hn, hb5⟩; have HB5 := hide hb5; have HN := hide hn; clear hb5 hn)
  go_ret
  exact ⟨ret_bool (by rw [← unhide HN]), unhide HB5⟩

theorem contains_wide (v : Nat) (hv : 128 ≤ v) (hv2 : v ≠ 65533) (hval : Utf8.valid (v : Int) = true) (W : World) : Calls Tryz.prog 52 #[.string sgs, .int .i32 (v : Int)] W fun e w' => e = .returned (.bool (decide (v ∈ signCs))) ∧ Below W.heap.size W w' := by
  obtain ⟨L, hW⟩ := wide_of hval hv
  have hvr : Lib.validRune (v : Int) = true := by
    rw [valid_ok] at hval
    unfold runeOk at hval
    have := of_decide_eq_true hval
    unfold Lib.validRune
    exact decide_eq_true (by omega)
  have hsz : sgs.size ≤ 100000 := by
    have : sgs.size = 111 := by kernel_rfl
    omega
  have h := indexRune_wide sgs (Utf8.encode (v : Int)) L (bt (Utf8.encode (v : Int)) L) (v : Int) W (by omega) (by omega) hvr rfl hW.size hW.lo hW.hi rfl hsz (fun i hi => sgs_cnt hW.last.1 hW.last.2 i hi)
  refine contains_some sgs (v : Int) _ W (h.mono ?_)
  rintro e w' ⟨n, he, hn, hb⟩
  exact ⟨n, he, decide_eq_decide.2 (hn.trans (sgs_has hW hv2)), hb⟩

theorem signs_said : SignsSaid fun v => decide (v ∈ signCs) := by
  intro sg v W hsg hval
  rw [hsg]
  by_cases h1 : v < 128
  · exact contains_small v h1 W
  · by_cases h2 : v = 65533
    · rw [h2]; exact contains_bad W
    · exact contains_wide v (by omega) h2 hval W

theorem readSign_at (s : ByteArray) (i : Nat) (w : World) (hi : i < s.size) (hT : TabsAt w) :
    Calls Tryz.prog 34 #[.string (s.extract i s.size)] w fun e w' => e = .returned (readG (signTok s i) i) ∧ Below w.heap.size w w' := by
  have hts : (s.extract i s.size).size = s.size - i := tail_size s i
  have hd : Utf8.decode (s.extract i s.size) 0 = Utf8.decode s i := tail_decode (i := i) (j := 0) hi
  have hw := decode_width_le hi
  have h := readSign_of (fun v => decide (v ∈ signCs)) signs_said (s.extract i s.size) w (by omega) (by rw [hd]; omega) hT
  refine h.mono ?_
  rintro e w' ⟨he, hb⟩
  refine ⟨?_, hb⟩
  rw [he, hd]
  congr 1
  unfold signTok readG
  by_cases hg : Utf8.decode s i = (65533, 1)
  · rw [rune_none hg, hg, if_neg (by decide), if_neg (by simp)]
    show _ = readV 0 0 ⟨#[]⟩ (0 - i) 1
    rw [Nat.zero_sub]
  · have hr : runeAt s i = Utf8.decode s i := by unfold runeAt; rw [if_neg hg]
    have hp := Lib.decode_width_pos s i hi
    rw [hr]
    by_cases hm : (Utf8.decode s i).1 ∈ signCs
    · rw [if_pos (decide_eq_true hm), if_pos ⟨hp, hm⟩]
      show readV 4 0 _ _ 0 = readV 4 0 (s.extract i (i + (Utf8.decode s i).2)) (i + (Utf8.decode s i).2 - i) 0
      rw [head_tail, Nat.add_sub_cancel_left]
    · rw [if_neg (by simpa using hm), if_neg (fun h => hm h.2)]
      show _ = readV 0 0 ⟨#[]⟩ (0 - i) 1
      rw [Nat.zero_sub]

theorem readText_at (s : ByteArray) (i : Nat) (w : World) (hi : i < s.size) (hs : s.size ≤ 1000000000000) (hT : TabsAt w) :
    Calls Tryz.prog 31 #[.string (s.extract i s.size)] w fun e w' => e = .returned (readG (textTok s (s.size - i) (i + 1) []) i) ∧ Below w.heap.size w w' := by
  have hts : (s.extract i s.size).size = s.size - i := tail_size s i
  have h := readText_any (s.extract i s.size) w (by omega) (by omega) hT
  refine h.mono ?_
  rintro e w' ⟨he, hb⟩
  refine ⟨?_, hb⟩
  rw [he]
  congr 1
  rw [textR_dev (s.size - i) ((s.extract i s.size).size + 1) 1 [] (by omega) (by omega) (by omega), tok_tail (s := s) (i := i) (s.size - i) 1 [], dev_tok (s.size - i) 1 [] (by omega) rfl]
  cases devT (s.extract i s.size) (s.size - i) 1 [] with
  | none =>
    show readV 0 0 ⟨#[]⟩ 0 1 = readG (shiftG i (bad 1)) i
    rw [shift_bad]
    show _ = readV 0 0 ⟨#[]⟩ (0 - i) 1
    rw [Nat.zero_sub]
  | some x =>
    obtain ⟨e1, o⟩ := x
    show (if Lib.validD o = true then readV 2 0 ⟨o.toArray⟩ e1 0 else readV 0 0 ⟨#[]⟩ 0 1) = readG (shiftG i (if Lib.validD o = true then ⟨2, 0, ⟨o.toArray⟩, e1, 0⟩ else bad 1)) i
    by_cases hv : Lib.validD o = true
    · rw [if_pos hv, if_pos hv]
      unfold shiftG
      rw [if_pos rfl]
      show _ = readV 2 0 ⟨o.toArray⟩ (e1 + i - i) 0
      rw [Nat.add_sub_cancel]
    · rw [if_neg hv, if_neg hv, shift_bad]
      show _ = readV 0 0 ⟨#[]⟩ (0 - i) 1
      rw [Nat.zero_sub]

end Go.Proofs.YtijamlgiinjikaaGreatDoor
