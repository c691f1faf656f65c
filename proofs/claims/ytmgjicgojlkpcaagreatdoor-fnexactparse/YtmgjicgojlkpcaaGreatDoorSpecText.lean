import Derived.Test.YtmgjicgojlkpcaaGreatDoorSpecConv
import Derived.Test.YtmgjicgojlkpcaaGreatDoorSpecRune
import Derived.Deep.DeepCutAuto
namespace Go.Proofs.YtmgjicgojlkpcaaGreatDoor
open Go.RowKit

theorem run_slice_byte (b o n c p q m : Nat) (hp : p ≤ q) (hq : q ≤ c) (hm : q - p = m) (hpc : p < c) (W : World) : (Instr.slice 33 (.slice (some ⟨b, o, none⟩) n c) (some (.int .i64 (p : Nat))) (some (.int .i64 (q : Nat))) none).run Tryz.prog W = .ok (.slice (some ⟨b, o + p, none⟩) m (c - p)) W := by
  have h1 : (q : Int) ≤ (c : Int) := by omega
  have h2 : (p : Int) ≤ (q : Int) := by omega
  have h3 : ¬ c = p := by omega
  have h5 : (⟨b, o, none⟩ : Addr).add p = ⟨b, o + p, none⟩ := by by_cases h : p = 0 <;> simp [Addr.add, h]
  go_simp

theorem text_end {s : ByteArray} {F k : Nat} {out : List UInt8} (h : ¬ k < s.size) : textTok s F k out = bad 1 := by
  cases F with
  | zero => rfl
  | succ F => rw [textTok, if_neg h]

theorem text_bad {s : ByteArray} {F k : Nat} {out : List UInt8} (h : k < s.size) (hq : bt s k ≠ 39) (hb : (runeAt s k).2 = 0 ∨ bt s k = 10) : textTok s F k out = bad 1 := by
  cases F with
  | zero => rfl
  | succ F => rw [textTok, if_pos h, if_neg hq, if_pos hb]

theorem text_quote {s : ByteArray} {F k : Nat} {out : List UInt8} (hF : s.size - k < F) (h : k < s.size) (hq : bt s k = 39) (hb : quotes s k = false) : textTok s F k out = ⟨2, 0, ⟨out.toArray⟩, k + 1, 0⟩ := by
  cases F with
  | zero => omega
  | succ F => rw [textTok, if_pos h, if_pos hq, if_neg (by rw [hb]; decide)]

theorem text_twice {s : ByteArray} {F k : Nat} {out : List UInt8} (hF : s.size - k < F) (h : k < s.size) (hq : bt s k = 39) (hb : quotes s k = true) : textTok s F k out = textTok s (F - 1) (k + 2) (out ++ [39]) := by
  cases F with
  | zero => omega
  | succ F => rw [textTok, if_pos h, if_pos hq, if_pos hb]; rfl

theorem text_rune {s : ByteArray} {F k : Nat} {out : List UInt8} (hF : s.size - k < F) (h : k < s.size) (hq : bt s k ≠ 39) (hb : ¬ ((runeAt s k).2 = 0 ∨ bt s k = 10)) : textTok s F k out = textTok s (F - 1) (k + (runeAt s k).2) (out ++ (s.extract k (k + (runeAt s k).2)).data.toList) := by
  cases F with
  | zero => omega
  | succ F => rw [textTok, if_pos h, if_neg hq, if_neg hb]; rfl

set_option maxRecDepth 20000 in
set_option maxHeartbeats 8000000 in
theorem l1Text_any (s : ByteArray) (i : Nat) (w : World) (hi : i < s.size) (hs : s.size ≤ 1000000000) :
    Calls Tryz.prog 138 #[.string s, .int .i64 (i : Nat)] w (GivesGot w (textTok s (s.size - i) (i + 1) [])) := by
  obtain ⟨tgt, htgt⟩ : ∃ tgt, textTok s (s.size - i) (i + 1) [] = tgt := ⟨_, rfl⟩
  rw [htgt]
  have HTG := hide htgt
  obtain ⟨Q, hQ⟩ : ∃ Q, Q = w.alloc (.cells #[.int .i64 0, .int .i64 0, .string ⟨#[]⟩, .int .i64 0, .int .i64 0, .int .i64 0] 119) := ⟨_, rfl⟩
  have HQ := hide hQ
  have HBX : Hid (GBox Q w.heap.size (.int .i64 0) (.int .i64 0) (.string ⟨#[]⟩) (.int .i64 0) (.int .i64 0) (.int .i64 0)) := by rw [hQ]; exact GBox.new w _ _ _ _ _ _
  have HBQ : Hid (Below w.heap.size w Q) := by rw [hQ]; exact (Below.refl _ _).alloc (Nat.le_refl _) _
  have hQs : Q.heap.size = w.heap.size + 1 := by rw [hQ]; simp
  clear hQ htgt
  obtain ⟨cap, W1, hcv, hcap, hrow, hbW, hzW⟩ := conv_str Q s
  rw [unhide HQ] at hcv
  have HROW : Hid (RowB W1 (some ⟨Q.heap.size, 0, none⟩) s.size (bz s)) := hrow
  have HBX1 := hide ((unhide HBX).below (Nat.le_refl _) hbW)
  have HBW : Hid (Below w.heap.size w W1) := (unhide HBQ).trans (hbW.mono (by omega))
  have hzl : w.heap.size < W1.heap.size := by omega
  have HG0 := hide (GrowB.start W1)
  have HST : Hid (∀ k W, k ≤ s.size → Calls Tryz.prog 88 #[.string s, .int .i64 (k : Nat), .string ⟨#[39, 39]⟩] W fun e w' => e = .returned (.bool (quotes s k)) ∧ w' = W) := fun k W hk => by
    rw [← starts_quotes]
    exact l1Starts_any s ⟨#[39, 39]⟩ k hk (by omega) (by decide) W
  obtain ⟨bb, hbb⟩ : ∃ b, Q.heap.size = b := ⟨_, rfl⟩
  rw [unhide HQ] at hbb
  have hbb' : w.heap.size + 1 = bb := by rw [← hbb]; simp
  have HBB : Hid (Q.heap.size = bb) := by show _ = _; rw [hQs]; exact hbb'
  rw [unhide HBB] at HROW
  rw [hbb] at hcv
  have hbl : bb < W1.heap.size := by have := unhide HBB; omega
  clear hrow hbW HBX hbb hzW hQs HBQ
  obtain ⟨i0, hii, hz0, hz1, hz2⟩ := info_parts info_byte
  obtain ⟨e0, he0⟩ : ∃ e, i + 1 = e := ⟨_, rfl⟩
  have hi1 : (i : Int) + 1 = (e0 : Int) := by omega
  rw [he0] at HTG
  have hei : i < e0 := by omega
  have hes : e0 ≤ s.size := by omega
  have HSE : Hid (s.size - e0 < s.size - i) := by show _ < _; omega
  clear he0 hbb'
  go_enter Tryz.func138, Tryz.ntmps138
  go_wp2_with fail
  go_loopw [6, 7] (fun u e wr => ∃ (g cp : Nat) (out : List UInt8) (k F : Nat), u = .slice (some ⟨g, 0, none⟩) out.length cp ∧ e = .int .i64 (k : Nat) ∧ k ≤ s.size ∧ out.length ≤ k ∧ s.size - k < F ∧ Hid (textTok s F k out = tgt) ∧ Hid (GrowB W1 wr g cp out.length (uz out))) (fun _ e _ => s.size - (intOf e).toNat)
  case atStart => exact ⟨W1.heap.size, 0, [], e0, s.size - i, rfl, rfl, hes, by simp, unhide HSE, HTG, HG0⟩
  case round =>
    obtain ⟨g, cp, out, k, F, rfl, rfl, hk, hol, hF, HTK, HG⟩ := hrel
    clear hcv HTG HG0
    have HLOW := hide (unhide HG).low
    have HBXr := hide ((unhide HBX1).below (Nat.le_refl _) (unhide HLOW))
    have hzr := (unhide HLOW).size
    have hzlr : w.heap.size < wr.heap.size := by omega
    have HBr : Hid (Below w.heap.size w wr) := (unhide HBW).trans ((unhide HLOW).mono (by omega))
    obtain ⟨nn, hnn⟩ : ∃ n, out.length = n := ⟨_, rfl⟩
    rw [hnn] at hol HG
    rw [hnn]
    have HNN := hide hnn
    clear hnn
    by_cases hlt : k < s.size
    case neg =>
      have hlti : ¬ (k : Int) < (s.size : Int) := by omega
      have HE : Hid (tgt = bad 1) := by show _ = _; rw [← unhide HTK, text_end hlt]
      obtain ⟨q0, q1, q2, q3, q4, q5, qf⟩ := (unhide HBXr).all
      have f0 := qf 0
      have f1 := qf 1
      have f2 := qf 2
      have f3 := qf 3
      have f4 := qf 4
      have f5 := qf 5
      clear qf
      go_wp2_with fail
      refine bodyPost_ret (v := gotV (bad 1)) (by simp [results, Tryz.results138, go_sem, q0, q1, q2, q3, q4, q5, gotV, bad]) rfl ?_
      exact ⟨by rw [unhide HE], (((((((unhide HBr)).setCell (Nat.le_refl _) _).setCell (Nat.le_refl _) _).setCell (Nat.le_refl _) _).setCell (Nat.le_refl _) _).setCell (Nat.le_refl _) _).setCell (Nat.le_refl _) _⟩
    case pos =>
      have hlti : (k : Int) < (s.size : Int) := by omega
      have hix := fun W => run_idx hlt W
      have hy8 := bt_lt s k
      obtain ⟨y, hy⟩ : ∃ y, bt s k = y := ⟨_, rfl⟩
      have HY := hide hy
      rw [hy] at hix hy8
      clear hy
      by_cases h39 : y = 39
      case pos =>
        subst h39
        have HSQ := hide (fun W => unhide HST k W hk)
        cases hq : quotes s k with
        | true =>
          rw [hq] at HSQ
          have hk2 : k + 2 ≤ s.size := by have := of_decide_eq_true hq; omega
          have HNX : Hid (textTok s (F - 1) (k + 2) (out ++ [39]) = tgt) := by show _ = _; rw [← text_twice hF hlt (unhide HY) hq]; exact unhide HTK
          clear hq
          go_wp2_with (first | (go_at_call 88; refine (unhide HSQ _).mono ?_; rintro e w5 ⟨rfl, hw⟩; obtain rfl := hw.symm) | (at_builtin; refine wpList_append_lies _ rfl _ _ 33 rfl W1.heap.size 5 i0 (.int .u8 0) 1 1 Tryz.underlying33 hii hz0 hz1 hz2 rfl (by decide) _ _ _ rfl ((unhide HG).below ((Below.refl _ _).alloc (Nat.le_refl _) _)).own ⟨wr.heap.size, 0, none⟩ 1 1 ([39].map (Value.int .u8)) rfl rfl (RowB.new wr [39]).news (one_bytes _) (by omega) (by unfold maxLen; omega) (by omega) (by have := (unhide HG).low.size; simp; omega) (wr.heap.size + 1) (by simp) ?_; intro g' cap' w7 hown' hgrow hat hlt7; have HF7 := hide (GrowB.push ((unhide HG).below ((Below.refl _ _).alloc (Nat.le_refl _) _)) hown' hgrow); clear hgrow hat hown' hlt7))
          go_roundw
          case rel =>
            refine ⟨g', cap', out ++ [39], k + 2, F - 1, ?_, by go_num, by omega, by rw [List.length_append, unhide HNN]; simp; omega, by omega, HNX, ?_⟩
            · rw [List.length_append, unhide HNN]; rfl
            · show GrowB _ _ _ _ _ _
              rw [List.length_append, unhide HNN, uz_app]
              exact unhide HF7
          case measure => simp [intOf]; omega
        | false =>
          rw [hq] at HSQ
          have HE : Hid (tgt = ⟨2, 0, ⟨out.toArray⟩, k + 1, 0⟩) := by show _ = _; rw [← unhide HTK, text_quote hF hlt (unhide HY) hq]
          have hcb : ∀ c, (convert 33 9 (.slice (some ⟨g, 0, none⟩) nn c)).run Tryz.prog wr = .ok (.string ⟨out.toArray⟩) wr := fun c => by
            have := conv_back (cap := c) (w := wr) (b := g) (off := 0) (l := out) (by rw [unhide HNN]; exact (unhide HG).row)
            rwa [unhide HNN] at this
          clear hq
          obtain ⟨q0, q1, q2, q3, q4, q5, qf⟩ := (unhide HBXr).all
          have f0 := qf 0
          have f1 := qf 1
          have f2 := qf 2
          have f3 := qf 3
          have f4 := qf 4
          have f5 := qf 5
          clear qf
          go_wp2_with (go_at_call 88; refine (unhide HSQ _).mono ?_; rintro e w5 ⟨rfl, hw⟩; obtain rfl := hw.symm)
          refine bodyPost_ret (v := gotV ⟨2, 0, ⟨out.toArray⟩, k + 1, 0⟩) (by simp [results, Tryz.results138, go_sem, q0, q1, q2, q3, q4, q5, gotV]) rfl ?_
          exact ⟨by rw [unhide HE], (((((((unhide HBr)).setCell (Nat.le_refl _) _).setCell (Nat.le_refl _) _).setCell (Nat.le_refl _) _).setCell (Nat.le_refl _) _).setCell (Nat.le_refl _) _).setCell (Nat.le_refl _) _⟩
      case neg =>
        have h39i : ¬ (y : Int) = 39 := by omega
        have HR := hide (l1Rune_any (some ⟨bb, 0, none⟩) cap s k wr ((unhide HROW).below (Nat.le_refl _) (unhide HLOW)) hlt (by omega))
        have hre := rune_end hlt
        have hnq : bt s k ≠ 39 := by rw [unhide HY]; exact h39
        have HNQ := hide hnq
        clear hnq h39
        obtain ⟨rv, hrv⟩ : ∃ v, (runeAt s k).1 = v := ⟨_, rfl⟩
        obtain ⟨rn, hrn⟩ : ∃ n, (runeAt s k).2 = n := ⟨_, rfl⟩
        have HR2 : Hid (Calls Tryz.prog 139 #[.slice (some ⟨bb, 0, none⟩) s.size cap, .int .i64 (k : Nat)] wr fun e w' => e = .returned (.tuple #[.int .i64 (rv : Nat), .int .i64 (rn : Nat)]) ∧ Below wr.heap.size wr w') := by
          have := unhide HR
          unfold GivesRune at this
          rw [hrv, hrn] at this
          exact this
        rw [hrn] at hre
        have HRN := hide hrn
        clear HR hrv hrn
        by_cases hbad : rn = 0 ∨ y = 10
        case pos =>
          have HE : Hid (tgt = bad 1) := by show _ = _; rw [← unhide HTK, text_bad hlt (unhide HNQ) (by rw [unhide HRN, unhide HY]; exact hbad)]
          have hb2 : (rn = 0) ∨ (¬ rn = 0 ∧ y = 10) := by omega
          rcases hb2 with hb2 | ⟨hb2, hb3⟩
          · subst hb2
            go_wp2_with (go_at_call 139; refine (unhide HR2).mono ?_; rintro e w5 ⟨rfl, hb5⟩; obtain ⟨q0, q1, q2, q3, q4, q5, qf⟩ := ((unhide HBXr).below (Nat.le_refl _) hb5).all; have f0 := qf 0; have f1 := qf 1; have f2 := qf 2; have f3 := qf 3; have f4 := qf 4; have f5 := qf 5; have HB5 := hide ((unhide HBr).trans (hb5.mono (unhide HBr).size)); clear qf hb5)
            refine bodyPost_ret (v := gotV (bad 1)) (by simp [results, Tryz.results138, go_sem, q0, q1, q2, q3, q4, q5, gotV, bad]) rfl ?_
            exact ⟨by rw [unhide HE], (((((((unhide HB5)).setCell (Nat.le_refl _) _).setCell (Nat.le_refl _) _).setCell (Nat.le_refl _) _).setCell (Nat.le_refl _) _).setCell (Nat.le_refl _) _).setCell (Nat.le_refl _) _⟩
          · subst hb3
            have hb2i : ¬ (rn : Int) = 0 := by omega
            go_wp2_with (go_at_call 139; refine (unhide HR2).mono ?_; rintro e w5 ⟨rfl, hb5⟩; obtain ⟨q0, q1, q2, q3, q4, q5, qf⟩ := ((unhide HBXr).below (Nat.le_refl _) hb5).all; have f0 := qf 0; have f1 := qf 1; have f2 := qf 2; have f3 := qf 3; have f4 := qf 4; have f5 := qf 5; have HB5 := hide ((unhide HBr).trans (hb5.mono (unhide HBr).size)); clear qf hb5)
            refine bodyPost_ret (v := gotV (bad 1)) (by simp [results, Tryz.results138, go_sem, q0, q1, q2, q3, q4, q5, gotV, bad]) rfl ?_
            exact ⟨by rw [unhide HE], (((((((unhide HB5)).setCell (Nat.le_refl _) _).setCell (Nat.le_refl _) _).setCell (Nat.le_refl _) _).setCell (Nat.le_refl _) _).setCell (Nat.le_refl _) _).setCell (Nat.le_refl _) _⟩
        case neg =>
          have hn0 : ¬ (rn : Int) = 0 := by omega
          have hy10 : ((y : Int) == 10) = false := by simp; omega
          obtain ⟨pc, hpc⟩ : ∃ l, (s.extract k (k + rn)).data.toList = l := ⟨_, rfl⟩
          have HPL : Hid (pc.length = rn) := by show _ = _; rw [← hpc, sub_list, List.length_take, List.length_drop, ← Lib.size_eq]; omega
          have HNX : Hid (textTok s (F - 1) (k + rn) (out ++ pc) = tgt) := by
            show _ = _
            have h1 := text_rune (out := out) hF hlt (unhide HNQ) (by rw [unhide HRN, unhide HY]; exact hbad)
            rw [unhide HRN, hpc] at h1
            rw [← h1]; exact unhide HTK
          have HPR := hide (RowB.piece (n := rn) (i := k) (unhide HROW) hre.1)
          rw [hpc, Nat.zero_add] at HPR
          obtain ⟨ke, hke⟩ : ∃ e, k + rn = e := ⟨_, rfl⟩
          have hki : (k : Int) + (rn : Int) = (ke : Int) := by omega
          have hsl := run_slice_byte bb 0 s.size cap k ke rn (by omega) (by omega) (by omega) (by omega)
          rw [Nat.zero_add] at hsl
          rw [hke] at HNX
          have hke1 : k < ke := by omega
          have hke2 : ke ≤ s.size := by omega
          have HKE := hide hke
          have hrn4 : rn ≤ 4 := hre.2
          have hrn0 : 0 < rn := by omega
          clear hpc hbad hke hre
          go_wp2_with (first | (go_at_call 139; refine (unhide HR2).mono ?_; rintro e w5 ⟨rfl, hb5⟩; have HG5 := hide ((unhide HG).below hb5); have HP5 := hide ((unhide HPR).below (Nat.le_refl _) ((unhide HLOW).trans (hb5.mono hzr))); clear hb5) | (at_builtin; refine wpList_append_lies _ rfl _ _ 33 rfl W1.heap.size 5 i0 (.int .u8 0) 1 1 Tryz.underlying33 hii hz0 hz1 hz2 rfl (by decide) _ _ _ rfl (unhide HG5).own ⟨bb, k, none⟩ rn (cap - k) ((uz pc).map (Value.int .u8)) rfl (by rw [List.length_map, uz_len, unhide HPL]; omega) (unhide HP5).news (one_bytes _) (by omega) (by unfold maxLen; omega) (by omega) (by have := (unhide HG5).low.size; simp; omega) w5.heap.size (by simp) ?_; intro g' cap' w7 hown' hgrow hat hlt7; have HF7 := hide (GrowB.push (unhide HG5) hown' hgrow); clear hgrow hat hown' hlt7))
          go_roundw
          case rel =>
            refine ⟨g', cap', out ++ pc, ke, F - 1, ?_, by go_num, hke2, by rw [List.length_append, unhide HNN, unhide HPL]; have := unhide HKE; omega, by omega, HNX, ?_⟩
            · rw [List.length_append, unhide HNN, unhide HPL]
            · show GrowB _ _ _ _ _ _
              rw [List.length_append, unhide HNN, unhide HPL, uz_app]
              exact unhide HF7
          case measure => simp [intOf]; omega

end Go.Proofs.YtmgjicgojlkpcaaGreatDoor
