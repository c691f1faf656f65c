import Derived.Test.YtmgjicgojlkpcaaGreatDoorSpecNumber
import Derived.Test.YtmgjicgojlkpcaaGreatDoorSpecText
import Derived.Test.YtmgjicgojlkpcaaGreatDoorSpecTokenS
namespace Go.Proofs.YtmgjicgojlkpcaaGreatDoor
open Go.RowKit

set_option maxRecDepth 20000 in
set_option maxHeartbeats 8000000 in
theorem l1Token_any (s : ByteArray) (i : Nat) (w : World) (hi : i < s.size) (hs : s.size ≤ 100000) :
    Calls Tryz.prog 89 #[.string s, .int .i64 (i : Nat)] w (GivesGot w (tokAt s i)) := by
  by_cases hsg : isD (bt s i) = false ∧ high s i = false ∧ bt s i ≠ 39 ∧ isL (bt s i) = false
  · have e : tokAt s i = signTok s i := by
      unfold tokAt
      rw [if_neg (by rw [hsg.1, hsg.2.1]; rintro (h | h) <;> cases h), if_neg hsg.2.2.1, if_neg (by rw [hsg.2.2.2]; decide)]
    rw [e]
    exact l1Token_sign s i w hi hs hsg.1 hsg.2.1 hsg.2.2.1 hsg.2.2.2
  have HNS := hide hsg
  clear hsg
  obtain ⟨Q, hQ⟩ : ∃ Q, Q = w.alloc (.cells #[.int .i64 0, .int .i64 0, .string ⟨#[]⟩, .int .i64 0, .int .i64 0, .int .i64 0] 119) := ⟨_, rfl⟩
  have HQ := hide hQ
  have HBX : Hid (GBox Q w.heap.size (.int .i64 0) (.int .i64 0) (.string ⟨#[]⟩) (.int .i64 0) (.int .i64 0) (.int .i64 0)) := by rw [hQ]; exact GBox.new w _ _ _ _ _ _
  have HBQ : Hid (Below w.heap.size w Q) := by rw [hQ]; exact (Below.refl _ _).alloc (Nat.le_refl _) _
  have hQs : Q.heap.size = w.heap.size + 1 := by rw [hQ]; simp
  have HQS := hide hQs
  clear hQ hQs
  have hlti : (i : Int) < (s.size : Int) := by omega
  have hix := fun W => run_idx hi W
  have HD := hide (fun W => l1Digit_any (bt s i) W)
  have HL := hide (fun W => l1Letter_any (bt s i) W)
  have HSI : Hid (∀ W, Calls Tryz.prog 88 #[.string s, .int .i64 (i : Nat), .string ⟨#[194, 175]⟩] W fun e w' => e = .returned (.bool (high s i)) ∧ w' = W) := fun W => by
    rw [← starts_high]
    exact l1Starts_any s ⟨#[194, 175]⟩ i (by omega) (by omega) (by decide) W
  have HTA : Hid (tokAt s i = if isD (bt s i) = true ∨ high s i = true then numTok s i else if bt s i = 39 then textTok s (s.size - i) (i + 1) [] else if isL (bt s i) = true then nameTok s i else signTok s i) := rfl
  have HY0 : Hid (bt s i < 256) := bt_lt s i
  obtain ⟨y, hy⟩ : ∃ y, bt s i = y := ⟨_, rfl⟩
  have HY := hide hy
  rw [hy] at hix HD HL HTA HY0 HNS
  have hy256 := unhide HY0
  clear hy HY0
  go_enter Tryz.func89, Tryz.ntmps89
  cases hd : isD y with
  | true =>
    rw [hd] at HD
    obtain ⟨g, hg⟩ : ∃ g, numTok s i = g := ⟨_, rfl⟩
    have HC := hide (l1Number_any s i Q hi (by omega))
    rw [hg] at HC
    have HE : Hid (tokAt s i = g) := by show _ = _; rw [← hg]; rw [unhide HTA, if_pos (.inl hd)]
    clear hg
    obtain ⟨gk, gn, gt, ge, gc⟩ := g
    have HC2 : Hid (Calls Tryz.prog 137 #[.string s, .int .i64 (i : Nat)] Q fun e' w' => e' = .returned (.agg #[.int .i64 gk, .int .i64 gn, .string gt, .int .i64 0, .int .i64 (ge : Nat), .int .i64 gc]) ∧ Below Q.heap.size Q w') := unhide HC
    clear HC
    go_wp2_with (first | (go_at_call 116; refine (unhide HD _).mono ?_; rintro e' w1 ⟨rfl, hw⟩; obtain rfl := hw.symm) | (go_at_call 137; rw [← unhide HQ]; refine (unhide HC2).mono ?_; rintro e' w5 ⟨rfl, hb5⟩; obtain ⟨q0, q1, q2, q3, q4, q5, qf⟩ := ((unhide HBX).below (Nat.le_refl _) hb5).all; have f0 := qf 0; have f1 := qf 1; have f2 := qf 2; have f3 := qf 3; have f4 := qf 4; have f5 := qf 5; clear qf; have HB5 := hide ((unhide HBQ).trans (hb5.mono (unhide HBQ).size)); clear hb5))
    refine bodyPost_ret (v := gotV ⟨gk, gn, gt, ge, gc⟩) (by simp [results, Tryz.results89, go_sem, q0, q1, q2, q3, q4, q5, gotV]) rfl ?_
    exact ⟨by rw [unhide HE], (((((((unhide HB5)).setCell (Nat.le_refl _) _).setCell (Nat.le_refl _) _).setCell (Nat.le_refl _) _).setCell (Nat.le_refl _) _).setCell (Nat.le_refl _) _).setCell (Nat.le_refl _) _⟩
  | false =>
    rw [hd] at HD
    cases hh : high s i with
    | true =>
      rw [hh] at HSI
      obtain ⟨g, hg⟩ : ∃ g, numTok s i = g := ⟨_, rfl⟩
      have HC := hide (l1Number_any s i Q hi (by omega))
      rw [hg] at HC
      have HE : Hid (tokAt s i = g) := by show _ = _; rw [← hg]; rw [unhide HTA, if_pos (.inr hh)]
      clear hg
      obtain ⟨gk, gn, gt, ge, gc⟩ := g
      have HC2 : Hid (Calls Tryz.prog 137 #[.string s, .int .i64 (i : Nat)] Q fun e' w' => e' = .returned (.agg #[.int .i64 gk, .int .i64 gn, .string gt, .int .i64 0, .int .i64 (ge : Nat), .int .i64 gc]) ∧ Below Q.heap.size Q w') := unhide HC
      clear HC
      go_wp2_with (first | (go_at_call 116; refine (unhide HD _).mono ?_; rintro e' w1 ⟨rfl, hw⟩; obtain rfl := hw.symm) | (go_at_call 121; refine (l1High_any _).mono ?_; rintro e' w1 ⟨rfl, hw⟩; obtain rfl := hw.symm) | (go_at_call 88; refine (unhide HSI _).mono ?_; rintro e' w1 ⟨rfl, hw⟩; obtain rfl := hw.symm) | (go_at_call 137; rw [← unhide HQ]; refine (unhide HC2).mono ?_; rintro e' w5 ⟨rfl, hb5⟩; obtain ⟨q0, q1, q2, q3, q4, q5, qf⟩ := ((unhide HBX).below (Nat.le_refl _) hb5).all; have f0 := qf 0; have f1 := qf 1; have f2 := qf 2; have f3 := qf 3; have f4 := qf 4; have f5 := qf 5; clear qf; have HB5 := hide ((unhide HBQ).trans (hb5.mono (unhide HBQ).size)); clear hb5))
      refine bodyPost_ret (v := gotV ⟨gk, gn, gt, ge, gc⟩) (by simp [results, Tryz.results89, go_sem, q0, q1, q2, q3, q4, q5, gotV]) rfl ?_
      exact ⟨by rw [unhide HE], (((((((unhide HB5)).setCell (Nat.le_refl _) _).setCell (Nat.le_refl _) _).setCell (Nat.le_refl _) _).setCell (Nat.le_refl _) _).setCell (Nat.le_refl _) _).setCell (Nat.le_refl _) _⟩
    | false =>
      rw [hh] at HSI
      have HT2 : Hid (tokAt s i = if y = 39 then textTok s (s.size - i) (i + 1) [] else if isL y = true then nameTok s i else signTok s i) := by
        show _ = _
        rw [unhide HTA, if_neg (by rw [hd, hh]; rintro (h | h) <;> cases h)]
      have HDF := hide hd
      have HHF := hide hh
      clear HTA hd hh
      by_cases h39 : y = 39
      case pos =>
        subst h39
        obtain ⟨g, hg⟩ : ∃ g, textTok s (s.size - i) (i + 1) [] = g := ⟨_, rfl⟩
        have HC := hide (l1Text_any s i Q hi (by omega))
        rw [hg] at HC
        have HE : Hid (tokAt s i = g) := by show _ = _; rw [← hg]; rw [unhide HT2, if_pos rfl]
        clear hg
        obtain ⟨gk, gn, gt, ge, gc⟩ := g
        have HC2 : Hid (Calls Tryz.prog 138 #[.string s, .int .i64 (i : Nat)] Q fun e' w' => e' = .returned (.agg #[.int .i64 gk, .int .i64 gn, .string gt, .int .i64 0, .int .i64 (ge : Nat), .int .i64 gc]) ∧ Below Q.heap.size Q w') := unhide HC
        clear HC
        go_wp2_with (first | (go_at_call 116; refine (unhide HD _).mono ?_; rintro e' w1 ⟨rfl, hw⟩; obtain rfl := hw.symm) | (go_at_call 121; refine (l1High_any _).mono ?_; rintro e' w1 ⟨rfl, hw⟩; obtain rfl := hw.symm) | (go_at_call 88; refine (unhide HSI _).mono ?_; rintro e' w1 ⟨rfl, hw⟩; obtain rfl := hw.symm) | (go_at_call 138; rw [← unhide HQ]; refine (unhide HC2).mono ?_; rintro e' w5 ⟨rfl, hb5⟩; obtain ⟨q0, q1, q2, q3, q4, q5, qf⟩ := ((unhide HBX).below (Nat.le_refl _) hb5).all; have f0 := qf 0; have f1 := qf 1; have f2 := qf 2; have f3 := qf 3; have f4 := qf 4; have f5 := qf 5; clear qf; have HB5 := hide ((unhide HBQ).trans (hb5.mono (unhide HBQ).size)); clear hb5))
        refine bodyPost_ret (v := gotV ⟨gk, gn, gt, ge, gc⟩) (by simp [results, Tryz.results89, go_sem, q0, q1, q2, q3, q4, q5, gotV]) rfl ?_
        exact ⟨by rw [unhide HE], (((((((unhide HB5)).setCell (Nat.le_refl _) _).setCell (Nat.le_refl _) _).setCell (Nat.le_refl _) _).setCell (Nat.le_refl _) _).setCell (Nat.le_refl _) _).setCell (Nat.le_refl _) _⟩
      case neg =>
        have h39i : ¬ (y : Int) = 39 := by omega
        cases hl : isL y with
        | true =>
          rw [hl] at HL
          have HT3 : Hid (tokAt s i = nameTok s i) := by show _ = _; rw [unhide HT2, if_neg h39, if_pos hl]
          clear HT2 h39 hl
          obtain ⟨q0, q1, q2, q3, q4, q5, qf⟩ := (unhide HBX).all
          have f0 := qf 0
          have f1 := qf 1
          have f2 := qf 2
          have f3 := qf 3
          have f4 := qf 4
          have f5 := qf 5
          clear qf
          go_wp2_with (first | (go_at_call 116; refine (unhide HD _).mono ?_; rintro e' w1 ⟨rfl, hw⟩; obtain rfl := hw.symm) | (go_at_call 121; refine (l1High_any _).mono ?_; rintro e' w1 ⟨rfl, hw⟩; obtain rfl := hw.symm) | (go_at_call 88; refine (unhide HSI _).mono ?_; rintro e' w1 ⟨rfl, hw⟩; obtain rfl := hw.symm) | (go_at_call 115; refine (unhide HL _).mono ?_; rintro e' w1 ⟨rfl, hw⟩; obtain rfl := hw.symm))
          rw [← unhide HQ]
          clear HD HL HSI hix
          go_loopw [5] (fun a wr => ∃ k : Nat, a = .int .i64 ((i + k : Nat) : Int) ∧ i + k ≤ s.size ∧ Hid (∀ j, j < k → i + j < s.size ∧ isLD (bt s (i + j)) = true) ∧ Q = wr) (fun a _ => s.size - (intOf a).toNat)
          case atStart => exact ⟨0, rfl, by omega, fun j hj => absurd hj (Nat.not_lt_zero _), rfl⟩
          case round =>
            obtain ⟨k, rfl, hk, HK, rfl⟩ := hrel
            obtain ⟨q, hq⟩ : ∃ q, i + k = q := ⟨_, rfl⟩
            rw [hq] at hk
            rw [hq]
            have HQE := hide hq
            have hiq : i ≤ q := by omega
            clear hq
            by_cases hmore : q < s.size ∧ isLD (bt s q) = true
            case pos =>
              have hlt := hmore.1
              have hqi : (q : Int) < (s.size : Int) := by omega
              have hix := fun W => run_idx hlt W
              have HD := hide (fun W => l1Digit_any (bt s q) W)
              have HL := hide (fun W => l1Letter_any (bt s q) W)
              have HK2 : Hid (∀ j, j < k + 1 → i + j < s.size ∧ isLD (bt s (i + j)) = true) := fun j hj => by
                by_cases e : j = k
                · subst e; rw [unhide HQE]; exact hmore
                · exact unhide HK j (by omega)
              have hor : isL (bt s q) = true ∨ (isL (bt s q) = false ∧ isD (bt s q) = true) := by
                have := hmore.2
                unfold isLD at this
                cases h : isL (bt s q) with
                | true => exact .inl rfl
                | false => rw [h] at this; exact .inr ⟨rfl, by simpa using this⟩
              obtain ⟨z, hz⟩ : ∃ z, bt s q = z := ⟨_, rfl⟩
              rw [hz] at hix HD HL hor
              clear hz hmore
              rcases hor with hL | ⟨hL, hD⟩
              · rw [hL] at HL
                go_wp2_with (first | (go_at_call 115; refine (unhide HL _).mono ?_; rintro e' w1 ⟨rfl, hw⟩; obtain rfl := hw.symm) | (go_at_call 116; refine (unhide HD _).mono ?_; rintro e' w1 ⟨rfl, hw⟩; obtain rfl := hw.symm))
                go_roundw
                case rel => exact ⟨k + 1, by have := unhide HQE; go_num, by have := unhide HQE; omega, HK2, by first | trivial | rfl⟩
                case measure => simp [intOf]; omega
              · rw [hL] at HL
                rw [hD] at HD
                go_wp2_with (first | (go_at_call 115; refine (unhide HL _).mono ?_; rintro e' w1 ⟨rfl, hw⟩; obtain rfl := hw.symm) | (go_at_call 116; refine (unhide HD _).mono ?_; rintro e' w1 ⟨rfl, hw⟩; obtain rfl := hw.symm))
                go_roundw
                case rel => exact ⟨k + 1, by have := unhide HQE; go_num, by have := unhide HQE; omega, HK2, by first | trivial | rfl⟩
                case measure => simp [intOf]; omega
            case neg =>
              have HEND : Hid (endOf isLD s i = q) := by show _ = _; rw [endOf_is k i (unhide HK) (by rw [unhide HQE]; exact hmore)]; exact unhide HQE
              have hsl := fun W => run_sub (s := s) (p := i) (q := q) hiq hk W
              have HBAD : Hid (20 < q - i → tokAt s i = bad 1) := fun h => by rw [unhide HT3, nameTok, unhide HEND, if_pos h]
              have HTOK : Hid (¬ 20 < q - i → tokAt s i = ⟨3, 0, s.extract i q, q, 0⟩) := fun h => by rw [unhide HT3, nameTok, unhide HEND, if_neg h]
              obtain ⟨x, hx⟩ : ∃ x, s.extract i q = x := ⟨_, rfl⟩
              rw [hx] at hsl HTOK
              have hsub : IntKind.i64.wrap ((q : Int) - (i : Int)) = (q : Int) - (i : Int) := by rw [IntKind.wrap_i64]; omega
              clear hx HEND HT3
              have hcs : (¬ q < s.size) ∨ (q < s.size ∧ isL (bt s q) = false ∧ isD (bt s q) = false) := by
                by_cases h : q < s.size
                · right
                  refine ⟨h, ?_⟩
                  have h2 : isLD (bt s q) = false := by cases h3 : isLD (bt s q) with | false => rfl | true => exact absurd ⟨h, h3⟩ hmore
                  unfold isLD at h2
                  simpa using h2
                · exact .inl h
              clear hmore
              rcases hcs with hqs | ⟨hlt, hL, hD⟩
              · have hqi : ¬ (q : Int) < (s.size : Int) := by omega
                by_cases h20 : 20 < q - i
                case pos =>
                  have h20i : (20 : Int) < (q : Int) - (i : Int) := by omega
                  have HE := hide (unhide HBAD h20)
                  go_wp2_with fail
                  refine bodyPost_ret (v := gotV (bad 1)) (by simp [results, Tryz.results89, go_sem, q0, q1, q2, q3, q4, q5, gotV, bad]) rfl ?_
                  exact ⟨by rw [unhide HE], (((((((unhide HBQ)).setCell (Nat.le_refl _) _).setCell (Nat.le_refl _) _).setCell (Nat.le_refl _) _).setCell (Nat.le_refl _) _).setCell (Nat.le_refl _) _).setCell (Nat.le_refl _) _⟩
                case neg =>
                  have h20i : ¬ (20 : Int) < (q : Int) - (i : Int) := by omega
                  have HE := hide (unhide HTOK h20)
                  go_wp2_with fail
                  refine bodyPost_ret (v := gotV ⟨3, 0, x, q, 0⟩) (by simp [results, Tryz.results89, go_sem, q0, q1, q2, q3, q4, q5, gotV]) rfl ?_
                  exact ⟨by rw [unhide HE], (((((((unhide HBQ)).setCell (Nat.le_refl _) _).setCell (Nat.le_refl _) _).setCell (Nat.le_refl _) _).setCell (Nat.le_refl _) _).setCell (Nat.le_refl _) _).setCell (Nat.le_refl _) _⟩
              · have hqi : (q : Int) < (s.size : Int) := by omega
                have hix := fun W => run_idx hlt W
                have HD := hide (fun W => l1Digit_any (bt s q) W)
                have HL := hide (fun W => l1Letter_any (bt s q) W)
                rw [hL] at HL
                rw [hD] at HD
                obtain ⟨z, hz⟩ : ∃ z, bt s q = z := ⟨_, rfl⟩
                rw [hz] at hix HD HL
                clear hz hL hD
                by_cases h20 : 20 < q - i
                case pos =>
                  have h20i : (20 : Int) < (q : Int) - (i : Int) := by omega
                  have HE := hide (unhide HBAD h20)
                  go_wp2_with (first | (go_at_call 115; refine (unhide HL _).mono ?_; rintro e' w1 ⟨rfl, hw⟩; obtain rfl := hw.symm) | (go_at_call 116; refine (unhide HD _).mono ?_; rintro e' w1 ⟨rfl, hw⟩; obtain rfl := hw.symm))
                  refine bodyPost_ret (v := gotV (bad 1)) (by simp [results, Tryz.results89, go_sem, q0, q1, q2, q3, q4, q5, gotV, bad]) rfl ?_
                  exact ⟨by rw [unhide HE], (((((((unhide HBQ)).setCell (Nat.le_refl _) _).setCell (Nat.le_refl _) _).setCell (Nat.le_refl _) _).setCell (Nat.le_refl _) _).setCell (Nat.le_refl _) _).setCell (Nat.le_refl _) _⟩
                case neg =>
                  have h20i : ¬ (20 : Int) < (q : Int) - (i : Int) := by omega
                  have HE := hide (unhide HTOK h20)
                  go_wp2_with (first | (go_at_call 115; refine (unhide HL _).mono ?_; rintro e' w1 ⟨rfl, hw⟩; obtain rfl := hw.symm) | (go_at_call 116; refine (unhide HD _).mono ?_; rintro e' w1 ⟨rfl, hw⟩; obtain rfl := hw.symm))
                  refine bodyPost_ret (v := gotV ⟨3, 0, x, q, 0⟩) (by simp [results, Tryz.results89, go_sem, q0, q1, q2, q3, q4, q5, gotV]) rfl ?_
                  exact ⟨by rw [unhide HE], (((((((unhide HBQ)).setCell (Nat.le_refl _) _).setCell (Nat.le_refl _) _).setCell (Nat.le_refl _) _).setCell (Nat.le_refl _) _).setCell (Nat.le_refl _) _).setCell (Nat.le_refl _) _⟩
        | false => exact absurd ⟨unhide HDF, unhide HHF, h39, hl⟩ (unhide HNS)

end Go.Proofs.YtmgjicgojlkpcaaGreatDoor
