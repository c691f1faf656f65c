import Derived.Test.YtinndpnilmmmjaaGreatDoorMRune
import Derived.Deep.DeepCutAuto
namespace Go.Proofs.YtinndpnilmmmjaaGreatDoor
open Go.RowKit

/-- numTok's cases. -/
theorem numTok_bad {s : ByteArray} {i f e : Nat} (hf : (if high s i = true then i + 2 else i) = f) (he : endOf isD s f = e) (h : e = f ∨ (e < s.size ∧ isL (bt s e) = true) ∨ high s e = true) : numTok s i = bad 1 := by
  unfold numTok
  simp only [hf, he]
  rw [if_pos h]

theorem numTok_big {s : ByteArray} {i f e : Nat} (hf : (if high s i = true then i + 2 else i) = f) (he : endOf isD s f = e) (h : ¬ (e = f ∨ (e < s.size ∧ isL (bt s e) = true) ∨ high s e = true)) (hb : 1000000000000000 < decV s f (e - f)) : numTok s i = bad 7 := by
  unfold numTok
  simp only [hf, he]
  rw [if_neg h, if_pos hb]

theorem numTok_ok {s : ByteArray} {i f e : Nat} (hf : (if high s i = true then i + 2 else i) = f) (he : endOf isD s f = e) (h : ¬ (e = f ∨ (e < s.size ∧ isL (bt s e) = true) ∨ high s e = true)) (hb : ¬ 1000000000000000 < decV s f (e - f)) : numTok s i = ⟨1, if high s i = true then -(decV s f (e - f) : Int) else (decV s f (e - f) : Int), ⟨#[]⟩, e, 0⟩ := by
  unfold numTok
  simp only [hf, he]
  rw [if_neg h, if_neg hb]

set_option maxRecDepth 20000 in
set_option maxHeartbeats 4000000 in
theorem l1Number_any (s : ByteArray) (i : Nat) (w : World) (hi : i < s.size) (hs : s.size ≤ 17592186044416) :
    Calls Tryz.prog 137 #[.string s, .int .i64 (i : Nat)] w (GivesGot w (numTok s i)) := by
  obtain ⟨Q, hQ⟩ : ∃ Q, Q = w.alloc (.cells #[.int .i64 0, .int .i64 0, .string ⟨#[]⟩, .int .i64 0, .int .i64 0, .int .i64 0] 119) := ⟨_, rfl⟩
  have HQ := hide hQ
  have HBX : Hid (GBox Q w.heap.size (.int .i64 0) (.int .i64 0) (.string ⟨#[]⟩) (.int .i64 0) (.int .i64 0) (.int .i64 0)) := by rw [hQ]; exact GBox.new w _ _ _ _ _ _
  have HBQ : Hid (Below w.heap.size w Q) := by rw [hQ]; exact (Below.refl _ _).alloc (Nat.le_refl _) _
  clear hQ
  have HST : Hid (∀ k W, k ≤ s.size → Calls Tryz.prog 88 #[.string s, .int .i64 (k : Nat), .string ⟨#[194, 175]⟩] W fun e w' => e = .returned (.bool (high s k)) ∧ w' = W) := fun k W hk => by
    rw [← starts_high]
    exact l1Starts_any s ⟨#[194, 175]⟩ k hk hs (by decide) W
  obtain ⟨B, hB⟩ : ∃ B, high s i = B := ⟨_, rfl⟩
  have hfs : (if B = true then i + 2 else i) ≤ s.size := by
    split
    · rename_i h
      rw [h] at hB
      have := of_decide_eq_true hB
      omega
    · omega
  obtain ⟨f, hf⟩ : ∃ f, (if B = true then i + 2 else i) = f := ⟨_, rfl⟩
  have HF : Hid ((if high s i = true then i + 2 else i) = f) := by show _ = _; rw [hB]; exact hf
  have HSI := hide (fun W => unhide HST i W (by omega))
  rw [hB] at HSI
  rw [hf] at hfs
  have HB := hide hB
  obtain ⟨sg, hsg⟩ : ∃ sg : Int, sg = if B = true then -1 else 1 := ⟨_, rfl⟩
  have HSG := hide hsg
  clear hB
  go_enter Tryz.func137, Tryz.ntmps137
  go_upto_if 13 with (first | (go_at_call 121; refine (l1High_any _).mono ?_; rintro e w1 ⟨rfl, hw⟩; obtain rfl := hw.symm) | (go_at_call 88; refine (unhide HSI _).mono ?_; rintro e w1 ⟨rfl, hw⟩; obtain rfl := hw.symm))
  rw [← unhide HQ]
  go_cut [5, 6] (fun a b wx => a = .int .i64 sg ∧ b = .int .i64 (f : Nat) ∧ Q = wx)
  case first =>
    cases B with
    | true =>
      have hfi : (i : Int) + 2 = (f : Int) := by rw [← hf]; rfl
      go_wp2_with (go_at_call 121; refine (l1High_any _).mono ?_; rintro e w1 ⟨rfl, hw⟩; obtain rfl := hw.symm)
      go_meet
      case rel => exact ⟨by rw [hsg]; rfl, by go_num, rfl⟩
    | false =>
      have hfi : i = f := by rw [← hf]; rfl
      go_wp2_with fail
      go_meet
      case rel => exact ⟨by rw [hsg]; rfl, by rw [hfi], rfl⟩
  case rest =>
  obtain ⟨rfl, rfl, rfl⟩ := hcut
  clear hf hsg HSI
  obtain ⟨q0, q1, q2, q3, q4, q5, qf⟩ := (unhide HBX).all
  have f0 := qf 0
  have f1 := qf 1
  have f2 := qf 2
  have f3 := qf 3
  have f4 := qf 4
  have f5 := qf 5
  clear qf
  go_wp2_with fail
  go_loopw [6, 7] (fun a b wr => ∃ k : Nat, a = .int .i64 ((f + k : Nat) : Int) ∧ b = .int .i64 ((capV s f k : Nat) : Int) ∧ f + k ≤ s.size ∧ Hid (∀ j, j < k → f + j < s.size ∧ isD (bt s (f + j)) = true) ∧ Q = wr) (fun a _ _ => s.size - (intOf a).toNat)
  case atStart => exact ⟨0, rfl, rfl, hfs, fun j hj => absurd hj (Nat.not_lt_zero _), rfl⟩
  case round =>
    obtain ⟨k, rfl, rfl, hk, HK, rfl⟩ := hrel
    obtain ⟨q, hq⟩ : ∃ q, f + k = q := ⟨_, rfl⟩
    obtain ⟨x, hx⟩ : ∃ x, capV s f k = x := ⟨_, rfl⟩
    have hxb : x ≤ 10000000000000207 := by rw [← hx]; exact capV_le s f (fun j => by have := bt_lt s (f + j); omega) k
    rw [hq] at hk
    rw [hq, hx]
    have HQE := hide hq
    have HXE := hide hx
    clear hq hx
    by_cases hmore : q < s.size ∧ isD (bt s q) = true
    case pos =>
      have hlt := hmore.1
      have hlti : (q : Int) < (s.size : Int) := by omega
      have hix := fun W => run_idx hlt W
      have HD := hide (fun W => l1Digit_any (bt s q) W)
      rw [hmore.2] at HD
      have hyb : 48 ≤ bt s q ∧ bt s q ≤ 57 := by have := hmore.2; unfold isD at this; exact of_decide_eq_true this
      obtain ⟨y, hy⟩ : ∃ y, bt s q = y := ⟨_, rfl⟩
      have HK2 : Hid (∀ j, j < k + 1 → f + j < s.size ∧ isD (bt s (f + j)) = true) := fun j hj => by
        by_cases e : j = k
        · subst e; rw [unhide HQE]; exact hmore
        · exact unhide HK j (by omega)
      have HCAP : Hid (capV s f (k + 1) = if x ≤ 1000000000000000 then x * 10 + (y - 48) else x) := by
        show _ = _
        rw [capV, unhide HXE, unhide HQE, hy]
      rw [hy] at hix HD hyb
      clear hy hmore
      have hsub : IntKind.u8.wrap ((y : Int) - 48) = ((y - 48 : Nat) : Int) := by simp [IntKind.wrap, IntKind.bits, IntKind.signed]; omega
      obtain ⟨d, hd⟩ : ∃ d, y - 48 = d := ⟨_, rfl⟩
      rw [hd] at hsub HCAP
      have hdb : d ≤ 9 := by omega
      have hsub2 : (y : Int) - 48 = (d : Int) := by omega
      clear hd hyb
      by_cases hv : x ≤ 1000000000000000
      case pos =>
        have hvi : (x : Int) ≤ 1000000000000000 := by omega
        have HC2 : Hid (capV s f (k + 1) = x * 10 + d) := by show _ = _; rw [unhide HCAP, if_pos hv]
        go_wp2_with (go_at_call 116; refine (unhide HD _).mono ?_; rintro e w1 ⟨rfl, hw⟩; obtain rfl := hw.symm)
        go_roundw
        case rel => exact ⟨k + 1, by have := unhide HQE; go_num, by rw [unhide HC2]; go_num, by have := unhide HQE; omega, HK2, by first | trivial | rfl⟩
        case measure => simp [intOf]; omega
      case neg =>
        have hvi : ¬ (x : Int) ≤ 1000000000000000 := by omega
        have HC2 : Hid (capV s f (k + 1) = x) := by show _ = _; rw [unhide HCAP, if_neg hv]
        go_wp2_with (go_at_call 116; refine (unhide HD _).mono ?_; rintro e w1 ⟨rfl, hw⟩; obtain rfl := hw.symm)
        go_roundw
        case rel => exact ⟨k + 1, by have := unhide HQE; go_num, by rw [unhide HC2], by have := unhide HQE; omega, HK2, by first | trivial | rfl⟩
        case measure => simp [intOf]; omega
    case neg =>
      have HEND : Hid (endOf isD s f = q) := by show _ = _; rw [endOf_is k f (unhide HK) (by rw [unhide HQE]; exact hmore)]; exact unhide HQE
      have hqf : f ≤ q := by have := unhide HQE; omega
      have HSQ := hide (fun W => unhide HST q W hk)
      by_cases hlt : q < s.size
      case neg =>
        have hlti : ¬ (q : Int) < (s.size : Int) := by omega
        have hno : high s q = false := decide_eq_false (by omega)
        rw [hno] at HSQ
        by_cases hqe : q = f
        case pos =>
          subst hqe
          have HE : Hid (numTok s i = bad 1) := numTok_bad (unhide HF) (unhide HEND) (.inl rfl)
          go_wp2_with fail
          refine bodyPost_ret (v := gotV (bad 1)) (by simp [results, Tryz.results137, go_sem, q0, q1, q2, q3, q4, q5, gotV, bad]) rfl ?_
          exact ⟨by rw [unhide HE], ((((((unhide HBQ).setCell (Nat.le_refl _) _).setCell (Nat.le_refl _) _).setCell (Nat.le_refl _) _).setCell (Nat.le_refl _) _).setCell (Nat.le_refl _) _).setCell (Nat.le_refl _) _⟩
        case neg =>
          have hqei : ¬ (q : Int) = (f : Int) := by omega
          have HNO : Hid (¬ (q = f ∨ (q < s.size ∧ isL (bt s q) = true) ∨ high s q = true)) := by rintro (h | h | h); exact hqe h; exact hlt h.1; rw [hno] at h; cases h
          by_cases hv : x ≤ 1000000000000000
          case neg =>
            have hvi : ¬ (x : Int) ≤ 1000000000000000 := by omega
            have hvi2 : (1000000000000000 : Int) < (x : Int) := by omega
            have HE : Hid (numTok s i = bad 7) := numTok_big (unhide HF) (unhide HEND) (unhide HNO) (by have h1 := (capV_eq s f k).2; rw [unhide HXE] at h1; rw [show q - f = k by have := unhide HQE; omega]; exact h1 (by omega))
            go_wp2_with (first | (go_at_call 121; refine (l1High_any _).mono ?_; rintro e w1 ⟨rfl, hw⟩; obtain rfl := hw.symm) | (go_at_call 88; refine (unhide HSQ _).mono ?_; rintro e w1 ⟨rfl, hw⟩; obtain rfl := hw.symm))
            refine bodyPost_ret (v := gotV (bad 7)) (by simp [results, Tryz.results137, go_sem, q0, q1, q2, q3, q4, q5, gotV, bad]) rfl ?_
            exact ⟨by rw [unhide HE], ((((((unhide HBQ).setCell (Nat.le_refl _) _).setCell (Nat.le_refl _) _).setCell (Nat.le_refl _) _).setCell (Nat.le_refl _) _).setCell (Nat.le_refl _) _).setCell (Nat.le_refl _) _⟩
          case pos =>
            have hvi : ¬ (1000000000000000 : Int) < (x : Int) := by omega
            have HDV : Hid (decV s f (q - f) = x) := by
              have h1 := (capV_eq s f k).1
              rw [unhide HXE] at h1
              show _ = _
              rw [show q - f = k by have := unhide HQE; omega]
              exact (h1 hv).symm
            have HE : Hid (numTok s i = ⟨1, sg * (x : Int), ⟨#[]⟩, q, 0⟩) := by
              show _ = _
              rw [numTok_ok (unhide HF) (unhide HEND) (unhide HNO) (by rw [unhide HDV]; omega), unhide HDV, unhide HB, unhide HSG]
              cases B <;> simp
            have hsgb : sg = 1 ∨ sg = -1 := by rw [unhide HSG]; cases B <;> simp
            have hmw : IntKind.i64.wrap (sg * (x : Int)) = sg * (x : Int) := by rcases hsgb with h | h <;> rw [h, IntKind.wrap_i64] <;> omega
            clear hsgb
            go_wp2_with (first | (go_at_call 121; refine (l1High_any _).mono ?_; rintro e w1 ⟨rfl, hw⟩; obtain rfl := hw.symm) | (go_at_call 88; refine (unhide HSQ _).mono ?_; rintro e w1 ⟨rfl, hw⟩; obtain rfl := hw.symm))
            refine bodyPost_ret (v := gotV ⟨1, sg * (x : Int), ⟨#[]⟩, q, 0⟩) (by simp [results, Tryz.results137, go_sem, q0, q1, q2, q3, q4, q5, gotV]) rfl ?_
            exact ⟨by rw [unhide HE], ((((((unhide HBQ).setCell (Nat.le_refl _) _).setCell (Nat.le_refl _) _).setCell (Nat.le_refl _) _).setCell (Nat.le_refl _) _).setCell (Nat.le_refl _) _).setCell (Nat.le_refl _) _⟩
      case pos =>
        have hlti : (q : Int) < (s.size : Int) := by omega
        have hdf : isD (bt s q) = false := by cases h : isD (bt s q) with | false => rfl | true => exact absurd ⟨hlt, h⟩ hmore
        have hix := fun W => run_idx hlt W
        have HD := hide (fun W => l1Digit_any (bt s q) W)
        have HL := hide (fun W => l1Letter_any (bt s q) W)
        rw [hdf] at HD
        by_cases hqe : q = f
        case pos =>
          subst hqe
          have HE : Hid (numTok s i = bad 1) := numTok_bad (unhide HF) (unhide HEND) (.inl rfl)
          go_wp2_with (first | (go_at_call 116; refine (unhide HD _).mono ?_; rintro e w1 ⟨rfl, hw⟩; obtain rfl := hw.symm))
          refine bodyPost_ret (v := gotV (bad 1)) (by simp [results, Tryz.results137, go_sem, q0, q1, q2, q3, q4, q5, gotV, bad]) rfl ?_
          exact ⟨by rw [unhide HE], ((((((unhide HBQ).setCell (Nat.le_refl _) _).setCell (Nat.le_refl _) _).setCell (Nat.le_refl _) _).setCell (Nat.le_refl _) _).setCell (Nat.le_refl _) _).setCell (Nat.le_refl _) _⟩
        case neg =>
          have hqei : ¬ (q : Int) = (f : Int) := by omega
          cases hl : isL (bt s q)
          case true =>
            rw [hl] at HL
            have HE : Hid (numTok s i = bad 1) := numTok_bad (unhide HF) (unhide HEND) (.inr (.inl ⟨hlt, hl⟩))
            go_wp2_with (first | (go_at_call 116; refine (unhide HD _).mono ?_; rintro e w1 ⟨rfl, hw⟩; obtain rfl := hw.symm) | (go_at_call 115; refine (unhide HL _).mono ?_; rintro e w1 ⟨rfl, hw⟩; obtain rfl := hw.symm))
            refine bodyPost_ret (v := gotV (bad 1)) (by simp [results, Tryz.results137, go_sem, q0, q1, q2, q3, q4, q5, gotV, bad]) rfl ?_
            exact ⟨by rw [unhide HE], ((((((unhide HBQ).setCell (Nat.le_refl _) _).setCell (Nat.le_refl _) _).setCell (Nat.le_refl _) _).setCell (Nat.le_refl _) _).setCell (Nat.le_refl _) _).setCell (Nat.le_refl _) _⟩
          case false =>
            rw [hl] at HL
            cases hh : high s q
            case true =>
              rw [hh] at HSQ
              have HE : Hid (numTok s i = bad 1) := numTok_bad (unhide HF) (unhide HEND) (.inr (.inr hh))
              go_wp2_with (first | (go_at_call 116; refine (unhide HD _).mono ?_; rintro e w1 ⟨rfl, hw⟩; obtain rfl := hw.symm) | (go_at_call 115; refine (unhide HL _).mono ?_; rintro e w1 ⟨rfl, hw⟩; obtain rfl := hw.symm) | (go_at_call 121; refine (l1High_any _).mono ?_; rintro e w1 ⟨rfl, hw⟩; obtain rfl := hw.symm) | (go_at_call 88; refine (unhide HSQ _).mono ?_; rintro e w1 ⟨rfl, hw⟩; obtain rfl := hw.symm))
              refine bodyPost_ret (v := gotV (bad 1)) (by simp [results, Tryz.results137, go_sem, q0, q1, q2, q3, q4, q5, gotV, bad]) rfl ?_
              exact ⟨by rw [unhide HE], ((((((unhide HBQ).setCell (Nat.le_refl _) _).setCell (Nat.le_refl _) _).setCell (Nat.le_refl _) _).setCell (Nat.le_refl _) _).setCell (Nat.le_refl _) _).setCell (Nat.le_refl _) _⟩
            case false =>
              rw [hh] at HSQ
              have HNO : Hid (¬ (q = f ∨ (q < s.size ∧ isL (bt s q) = true) ∨ high s q = true)) := by rintro (h | h | h); exact hqe h; rw [hl] at h; cases h.2; rw [hh] at h; cases h
              by_cases hv : x ≤ 1000000000000000
              case neg =>
                have hvi : ¬ (x : Int) ≤ 1000000000000000 := by omega
                have hvi2 : (1000000000000000 : Int) < (x : Int) := by omega
                have HE : Hid (numTok s i = bad 7) := numTok_big (unhide HF) (unhide HEND) (unhide HNO) (by have h1 := (capV_eq s f k).2; rw [unhide HXE] at h1; rw [show q - f = k by have := unhide HQE; omega]; exact h1 (by omega))
                go_wp2_with (first | (go_at_call 116; refine (unhide HD _).mono ?_; rintro e w1 ⟨rfl, hw⟩; obtain rfl := hw.symm) | (go_at_call 115; refine (unhide HL _).mono ?_; rintro e w1 ⟨rfl, hw⟩; obtain rfl := hw.symm) | (go_at_call 121; refine (l1High_any _).mono ?_; rintro e w1 ⟨rfl, hw⟩; obtain rfl := hw.symm) | (go_at_call 88; refine (unhide HSQ _).mono ?_; rintro e w1 ⟨rfl, hw⟩; obtain rfl := hw.symm))
                refine bodyPost_ret (v := gotV (bad 7)) (by simp [results, Tryz.results137, go_sem, q0, q1, q2, q3, q4, q5, gotV, bad]) rfl ?_
                exact ⟨by rw [unhide HE], ((((((unhide HBQ).setCell (Nat.le_refl _) _).setCell (Nat.le_refl _) _).setCell (Nat.le_refl _) _).setCell (Nat.le_refl _) _).setCell (Nat.le_refl _) _).setCell (Nat.le_refl _) _⟩
              case pos =>
                have hvi : ¬ (1000000000000000 : Int) < (x : Int) := by omega
                have HDV : Hid (decV s f (q - f) = x) := by
                  have h1 := (capV_eq s f k).1
                  rw [unhide HXE] at h1
                  show _ = _
                  rw [show q - f = k by have := unhide HQE; omega]
                  exact (h1 hv).symm
                have HE : Hid (numTok s i = ⟨1, sg * (x : Int), ⟨#[]⟩, q, 0⟩) := by
                  show _ = _
                  rw [numTok_ok (unhide HF) (unhide HEND) (unhide HNO) (by rw [unhide HDV]; omega), unhide HDV, unhide HB, unhide HSG]
                  cases B <;> simp
                have hsgb : sg = 1 ∨ sg = -1 := by rw [unhide HSG]; cases B <;> simp
                have hmw : IntKind.i64.wrap (sg * (x : Int)) = sg * (x : Int) := by rcases hsgb with h | h <;> rw [h, IntKind.wrap_i64] <;> omega
                clear hsgb
                go_wp2_with (first | (go_at_call 116; refine (unhide HD _).mono ?_; rintro e w1 ⟨rfl, hw⟩; obtain rfl := hw.symm) | (go_at_call 115; refine (unhide HL _).mono ?_; rintro e w1 ⟨rfl, hw⟩; obtain rfl := hw.symm) | (go_at_call 121; refine (l1High_any _).mono ?_; rintro e w1 ⟨rfl, hw⟩; obtain rfl := hw.symm) | (go_at_call 88; refine (unhide HSQ _).mono ?_; rintro e w1 ⟨rfl, hw⟩; obtain rfl := hw.symm))
                refine bodyPost_ret (v := gotV ⟨1, sg * (x : Int), ⟨#[]⟩, q, 0⟩) (by simp [results, Tryz.results137, go_sem, q0, q1, q2, q3, q4, q5, gotV]) rfl ?_
                exact ⟨by rw [unhide HE], ((((((unhide HBQ).setCell (Nat.le_refl _) _).setCell (Nat.le_refl _) _).setCell (Nat.le_refl _) _).setCell (Nat.le_refl _) _).setCell (Nat.le_refl _) _).setCell (Nat.le_refl _) _⟩

end Go.Proofs.YtinndpnilmmmjaaGreatDoor
