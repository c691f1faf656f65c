import Derived.Test.YtmgjicgojlkpcaaGreatDoorSpecNumber
import Derived.Test.YtmgjicgojlkpcaaGreatDoorSpecText
import Derived.Test.YtmgjicgojlkpcaaGreatDoorSpecRegS
import Derived.Deep.RegionWith
import Derived.Deep.DeepCutAuto
namespace Go.Proofs.YtmgjicgojlkpcaaGreatDoor
open Go.RowKit

theorem rune_le (s : ByteArray) (i : Nat) : (runeAt s i).1 ≤ 2097151 := by
  have hb := bt_lt s i
  by_cases h1 : bt s i < 128
  · rw [rune_ascii h1]; simp; omega
  · by_cases h2 : bt s i < 192 ∨ 248 ≤ bt s i
    · rw [rune_0 (by omega) h2]; simp
    · by_cases h3 : bt s i < 224
      · rw [rune_2 (by omega) h3]
        split
        · show v2 s i ≤ _; unfold v2; omega
        · simp
      · by_cases h4 : bt s i < 240
        · rw [rune_3 (by omega) h4]
          split
          · show v3 s i ≤ _; unfold v3; omega
          · simp
        · rw [rune_4 (by omega) (by omega)]
          split
          · show v4 s i ≤ _; unfold v4; omega
          · simp

set_option maxRecDepth 20000 in
set_option maxHeartbeats 2000000 in
theorem l1Token_sign (s : ByteArray) (i : Nat) (w : World) (hi : i < s.size) (hs : s.size ≤ 100000) (hd : isD (bt s i) = false) (hh : high s i = false) (h39 : bt s i ≠ 39) (hl : isL (bt s i) = false) :
    Calls Tryz.prog 89 #[.string s, .int .i64 (i : Nat)] w (GivesGot w (signTok s i)) := by
  obtain ⟨Q, hQ⟩ : ∃ Q, Q = w.alloc (.cells #[.int .i64 0, .int .i64 0, .string ⟨#[]⟩, .int .i64 0, .int .i64 0, .int .i64 0] 119) := ⟨_, rfl⟩
  have HQ := hide hQ
  have HBX : Hid (GBox Q w.heap.size (.int .i64 0) (.int .i64 0) (.string ⟨#[]⟩) (.int .i64 0) (.int .i64 0) (.int .i64 0)) := by rw [hQ]; exact GBox.new w _ _ _ _ _ _
  have HBQ : Hid (Below w.heap.size w Q) := by rw [hQ]; exact (Below.refl _ _).alloc (Nat.le_refl _) _
  clear hQ
  have hlti : (i : Int) < (s.size : Int) := by omega
  have hix := fun W => run_idx hi W
  have HD := hide (fun W => l1Digit_any (bt s i) W)
  have HL := hide (fun W => l1Letter_any (bt s i) W)
  have HSI : Hid (∀ W, Calls Tryz.prog 88 #[.string s, .int .i64 (i : Nat), .string ⟨#[194, 175]⟩] W fun e w' => e = .returned (.bool (high s i)) ∧ w' = W) := fun W => by
    rw [← starts_high]
    exact l1Starts_any s ⟨#[194, 175]⟩ i (by omega) (by omega) (by decide) W
  rw [hd] at HD
  rw [hl] at HL
  rw [hh] at HSI
  have HY0 : Hid (bt s i < 256) := bt_lt s i
  obtain ⟨y, hy⟩ : ∃ y, bt s i = y := ⟨_, rfl⟩
  rw [hy] at hix HD HL HY0 h39
  have hy256 := unhide HY0
  have h39i : ¬ (y : Int) = 39 := by omega
  clear hy HY0 hd hl hh h39
  obtain ⟨cap, W1, hcv, hcap, hrow, hbW, hzW⟩ := conv_str Q s
  have HR0 := hide (l1Rune_any (some ⟨Q.heap.size, 0, none⟩) cap s i W1 hrow hi (by omega))
  have hre := rune_end hi
  have hrl := rune_le s i
  have HSA : Hid (0 < (runeAt s i).2 → ((pcN signS signS.size).2.any fun p => p.toList == (s.extract i (i + (runeAt s i).2)).toList) = decide ((runeAt s i).1 ∈ signCs)) := fun h => sign_any hi h hrl
  have HT4 : Hid (signTok s i = if 0 < (runeAt s i).2 ∧ (runeAt s i).1 ∈ signCs then ⟨4, 0, s.extract i (i + (runeAt s i).2), i + (runeAt s i).2, 0⟩ else bad 1) := rfl
  obtain ⟨rv, hrv⟩ : ∃ v, (runeAt s i).1 = v := ⟨_, rfl⟩
  obtain ⟨rn, hrn⟩ : ∃ n, (runeAt s i).2 = n := ⟨_, rfl⟩
  have HR2 : Hid (Calls Tryz.prog 139 #[.slice (some ⟨Q.heap.size, 0, none⟩) s.size cap, .int .i64 (i : Nat)] W1 fun e w' => e = .returned (.tuple #[.int .i64 (rv : Nat), .int .i64 (rn : Nat)]) ∧ Below W1.heap.size W1 w') := by
    have := unhide HR0
    unfold GivesRune at this
    rw [hrv, hrn] at this
    exact this
  rw [hrn] at hre
  rw [hrn, hrv] at HSA HT4
  have HBX1 := hide ((unhide HBX).below (Nat.le_refl _) hbW)
  have HBW : Hid (Below w.heap.size w W1) := (unhide HBQ).trans (hbW.mono (unhide HBQ).size)
  obtain ⟨qs, hqs⟩ : ∃ q, Q.heap.size = q := ⟨_, rfl⟩
  rw [hqs] at HR2 hcv
  rw [unhide HQ] at hcv
  obtain ⟨e0, he0⟩ : ∃ e, i + rn = e := ⟨_, rfl⟩
  rw [he0] at HSA HT4 hre
  have hei : (i : Int) + (rn : Int) = (e0 : Int) := by omega
  have hsl := fun W => run_sub (s := s) (p := i) (q := e0) (by omega) hre.1 W
  obtain ⟨x, hx⟩ : ∃ x, s.extract i e0 = x := ⟨_, rfl⟩
  rw [hx] at hsl HSA HT4
  obtain ⟨T, hT⟩ : ∃ T, decide (0 < rn ∧ rv ∈ signCs) = T := ⟨_, rfl⟩
  have HTT := hide hT
  have hrnb : rn ≤ 4 := hre.2
  have he0b : e0 ≤ s.size := hre.1
  have HTF : Hid (0 < rn → ((pcN signS signS.size).2.any fun p => p.toList == x.toList) = T) := fun h0 => by
    rw [unhide HSA h0, ← unhide HTT]
    by_cases hm : rv ∈ signCs
    · rw [decide_eq_true hm, decide_eq_true ⟨h0, hm⟩]
    · rw [decide_eq_false hm, decide_eq_false (fun h => hm h.2)]
  obtain ⟨nl, hnl⟩ : ∃ n, (pcN signS signS.size).2.length = n := ⟨_, rfl⟩
  have HLI : Hid (0 < rn → ∀ W, Calls Tryz.prog 141 #[.string signS] W (GivesL W x T nl)) := fun h0 W => (l1List_any signS W sign_size).mono (by
    rintro e w' ⟨g, cl, rfl, hrs, hb⟩
    refine ⟨g, cl, by rw [hnl], fun W' hW' => ?_, hb⟩
    have hsz : (pcN signS signS.size).2.length ≤ 100000 := Nat.le_trans (pcN_le signS signS.size).2 sign_size
    have := l1In_any (some ⟨g, 0, none⟩) _ cl _ x W' (hrs.below (Nat.le_refl _) hW') hsz
    rw [hnl, unhide HTF h0] at this
    exact this)
  have HSG := hide l1Signs_any
  obtain ⟨SG, hSG⟩ : ∃ z, signS = z := ⟨_, rfl⟩
  rw [hSG] at HLI HSG
  clear HR0 hrow hbW hzW hcap hrl hrv hrn hqs hx he0 hT hre HSA HTF hnl hSG
  go_enter Tryz.func89, Tryz.ntmps89
  go_upto_region 13 with (first | (go_at_call 116; refine (unhide HD _).mono ?_; rintro e' w1 ⟨rfl, hw⟩; obtain rfl := hw.symm) | (go_at_call 121; refine (l1High_any _).mono ?_; rintro e' w1 ⟨rfl, hw⟩; obtain rfl := hw.symm) | (go_at_call 88; refine (unhide HSI _).mono ?_; rintro e' w1 ⟨rfl, hw⟩; obtain rfl := hw.symm) | (go_at_call 115; refine (unhide HL _).mono ?_; rintro e' w1 ⟨rfl, hw⟩; obtain rfl := hw.symm) | (go_at_call 139; refine (unhide HR2).mono ?_; rintro e' w5 ⟨rfl, hb5⟩; have HBX5 := hide ((unhide HBX1).below (Nat.le_refl _) hb5); have HB5 := hide ((unhide HBW).trans (hb5.mono (unhide HBW).size)); clear hb5))
  clear HD HL HSI hix hcv HR2 HBX1 HBW HBX HBQ
  go_cut [82] (fun t wx => t = .bool T ∧ Hid (Below w5.heap.size w5 wx))
  case first =>
    by_cases h0 : 0 < rn
    case neg =>
      have HTF : Hid (T = false) := by show _ = _; rw [← unhide HTT]; exact decide_eq_false (fun h => h0 h.1)
      obtain rfl : rn = 0 := by omega
      clear h0 hsl
      go_quiet (fail)
      go_wp2_with fail
      go_meet
      case rel => exact ⟨by rw [unhide HTF], Below.drewN (Below.refl _ _) _⟩
    case pos =>
      have HLI2 := hide (unhide HLI h0)
      have HB0 : Hid (Below w5.heap.size w5 w5.drew) := (Below.refl _ _).drew
      clear HLI HT4 HTT HBX5 HB5 hi
      have hadd : IntKind.i64.wrap ((i : Int) + (rn : Int)) = (e0 : Nat) := by rw [hei, IntKind.wrap_i64]; omega
      refine regionS _ w5 (by simp) s x SG i rn e0 nl T rfl rfl rfl h0 hadd hsl (unhide HSG) (unhide HLI2) (fun _ _ _ _ _ h => h) ?_
      intro g cl w' hb
      have HBB := hide hb
      clear hb
      simp only [outS, Act.put, List.setIfInBounds_toArray, List.set_cons_zero, List.set_cons_succ]
      go_wp2_with fail
      go_meet
      case rel => exact ⟨rfl, HBB⟩
  case rest =>
    obtain ⟨rfl, HBc⟩ := hcut
    obtain ⟨w6, hw6⟩ : ∃ z, z = wc := ⟨_, rfl⟩
    subst hw6
    have HBX6 := hide ((unhide HBX5).below (Nat.le_refl _) (unhide HBc))
    have HB6 : Hid (Below w.heap.size w w6) := (unhide HB5).trans ((unhide HBc).mono (unhide HB5).size)
    obtain ⟨q0, q1, q2, q3, q4, q5, qf⟩ := (unhide HBX6).all
    have f0 := qf 0
    have f1 := qf 1
    have f2 := qf 2
    have f3 := qf 3
    have f4 := qf 4
    have f5 := qf 5
    clear qf HBX5 HB5 HBc
    cases T with
    | true =>
      have HE : Hid (signTok s i = ⟨4, 0, x, e0, 0⟩) := by show _ = _; rw [unhide HT4, if_pos (of_decide_eq_true (unhide HTT))]
      go_wp2_with fail
      refine bodyPost_ret (v := gotV ⟨4, 0, x, e0, 0⟩) (by simp [results, Tryz.results89, go_sem, q0, q1, q2, q3, q4, q5, gotV]) rfl ?_
      exact ⟨by rw [unhide HE], (((((((unhide HB6)).setCell (Nat.le_refl _) _).setCell (Nat.le_refl _) _).setCell (Nat.le_refl _) _).setCell (Nat.le_refl _) _).setCell (Nat.le_refl _) _).setCell (Nat.le_refl _) _⟩
    | false =>
      have HE : Hid (signTok s i = bad 1) := by show _ = _; rw [unhide HT4, if_neg (of_decide_eq_false (unhide HTT))]
      go_wp2_with fail
      refine bodyPost_ret (v := gotV (bad 1)) (by simp [results, Tryz.results89, go_sem, q0, q1, q2, q3, q4, q5, gotV, bad]) rfl ?_
      exact ⟨by rw [unhide HE], (((((((unhide HB6)).setCell (Nat.le_refl _) _).setCell (Nat.le_refl _) _).setCell (Nat.le_refl _) _).setCell (Nat.le_refl _) _).setCell (Nat.le_refl _) _).setCell (Nat.le_refl _) _⟩

end Go.Proofs.YtmgjicgojlkpcaaGreatDoor
