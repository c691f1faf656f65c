import Derived.Test.YtinndpnilmmmjaaGreatDoorMFit0
import Derived.Deep.DeepCutAuto
import Derived.Laws.IdiomStrings
import Derived.OrdersHeld
import Derived.RegionTactic
import Derived.WalkKit
import Derived.Deep.RegionWith
import Derived.Shelf.Abstract
import Derived.Laws.RangeAny
import Derived.Laws.Runes
import Derived.Lib.RuneCount
import Derived.Lib.AtoiAllCases
import Derived.Lib.Strings
import Derived.Shelf.Strings.Prefix
import Derived.Ground.NamesProg
import Derived.Test.YtinndpnilmmmjaaGreatDoorProg
import Derived.Shelf.Strconv.AtoiAll
namespace Go.Proofs.YtinndpnilmmmjaaGreatDoor
open Go.RowKit

/-- numTok's cases. -/
theorem numTok_bad {s : ByteArray} {i f e : Nat} (hf : (if high s i = true then i + 2 else i) = f) (he : endOf isD s f = e) (h : e = f ∨ (e < s.size ∧ isL (bt s e) = true) ∨ high s e = true) : numTok s i = bad 1 := by
  unfold numTok
  simp only [hf, he]
  rw [if_pos h]

theorem numTok_big {s : ByteArray} {i f e : Nat} (hf : (if high s i = true then i + 2 else i) = f) (he : endOf isD s f = e) (h : ¬ (e = f ∨ (e < s.size ∧ isL (bt s e) = true) ∨ high s e = true)) (hb : 1000000000000000 < decV s f (e - f)) : numTok s i = bad 7 := by
  unfold numTok
  simp only [hf, he]
  rw [if_neg h, if_pos hb]

theorem numTok_ok {s : ByteArray} {i f e : Nat} (hf : (if high s i = true then i + 2 else i) = f) (he : endOf isD s f = e) (h : ¬ (e = f ∨ (e < s.size ∧ isL (bt s e) = true) ∨ high s e = true)) (hb : ¬ 1000000000000000 < decV s f (e - f)) : numTok s i = ⟨1, if high s i = true then -(decV s f (e - f) : Int) else (decV s f (e - f) : Int), ⟨#[]⟩, e, 0⟩ := by
  unfold numTok
  simp only [hf, he]
  rw [if_neg h, if_neg hb]

set_option maxRecDepth 20000 in
set_option maxHeartbeats 4000000 in
theorem l1Number_any (s : ByteArray) (i : Nat) (w : World) (hi : i < s.size) (hs : s.size ≤ 17592186044416) :
    Calls Tryz.prog 137 #[.string s, .int .i64 (i : Nat)] w (GivesGot w (numTok s i)) := by
  obtain ⟨Q, hQ⟩ : ∃ Q, Q = w.alloc (.cells #[.int .i64 0, .int .i64 0, .string ⟨#[]⟩, .int .i64 0, .int .i64 0, .int .i64 0] 119) := ⟨_, rfl⟩
  have HQ := hide hQ
  have HBX : Hid (GBox Q w.heap.size (.int .i64 0) (.int .i64 0) (.string ⟨#[]⟩) (.int .i64 0) (.int .i64 0) (.int .i64 0)) := by rw [hQ]; exact GBox.new w _ _ _ _ _ _
  have HBQ : Hid (Below w.heap.size w Q) := by rw [hQ]; exact (Below.refl _ _).alloc (Nat.le_refl _) _
  clear hQ
  have HST : Hid (∀ k W, k ≤ s.size → Calls Tryz.prog 88 #[.string s, .int .i64 (k : Nat), .string ⟨#[194, 175]⟩] W fun e w' => e = .returned (.bool (high s k)) ∧ w' = W) := fun k W hk => by
    rw [← starts_high]
    exact l1Starts_any s ⟨#[194, 175]⟩ k hk hs (by decide) W
  obtain ⟨B, hB⟩ : ∃ B, high s i = B := ⟨_, rfl⟩
  have hfs : (if B = true then i + 2 else i) ≤ s.size := by
    split
    · rename_i h
      rw [h] at hB
      have := of_decide_eq_true hB
      omega
    · omega
  obtain ⟨f, hf⟩ : ∃ f, (if B = true then i + 2 else i) = f := ⟨_, rfl⟩
  have HF : Hid ((if high s i = true then i + 2 else i) = f) := by show _ = _; rw [hB]; exact hf
  have HSI := hide (fun W => unhide HST i W (by omega))
  rw [hB] at HSI
  rw [hf] at hfs
  have HB := hide hB
  obtain ⟨sg, hsg⟩ : ∃ sg : Int, sg = if B = true then -1 else 1 := ⟨_, rfl⟩
  have HSG := hide hsg
  clear hB
  go_enter Tryz.func137, Tryz.ntmps137
  go_upto_if 13 with (first | (go_at_call 121; refine (l1High_any _).mono ?_; rintro e w1 ⟨rfl, hw⟩; obtain rfl := hw.symm) | (go_at_call 88; refine (unhide HSI _).mono ?_; rintro e w1 ⟨rfl, hw⟩; obtain rfl := hw.symm))
  rw [← unhide HQ]
  go_cut [5, 6] (fun a b wx => a = .int .i64 sg ∧ b = .int .i64 (f : Nat) ∧ Q = wx)
  case first =>
    cases B with
    | true =>
      have hfi : (i : Int) + 2 = (f : Int) := by rw [← hf]; rfl
      go_wp2_with (go_at_call 121; refine (l1High_any _).mono ?_; rintro e w1 ⟨rfl, hw⟩; obtain rfl := hw.symm)
      go_meet
      case rel => exact ⟨by rw [hsg]; rfl, by go_num, rfl⟩
    | false =>
      have hfi : i = f := by rw [← hf]; rfl
      go_wp2_with fail
      go_meet
      case rel => exact ⟨by rw [hsg]; rfl, by rw [hfi], rfl⟩
  case rest =>
  obtain ⟨rfl, rfl, rfl⟩ := hcut
  clear hf hsg HSI
  obtain ⟨q0, q1, q2, q3, q4, q5, qf⟩ := (unhide HBX).all
  have f0 := qf 0
  have f1 := qf 1
  have f2 := qf 2
  have f3 := qf 3
  have f4 := qf 4
  have f5 := qf 5
  clear qf
  go_wp2_with fail
  go_loopw [6, 7] (fun a b wr => ∃ k : Nat, a = .int .i64 ((f + k : Nat) : Int) ∧ b = .int .i64 ((capV s f k : Nat) : Int) ∧ f + k ≤ s.size ∧ Hid (∀ j, j < k → f + j < s.size ∧ isD (bt s (f + j)) = true) ∧ Q = wr) (fun a _ _ => s.size - (intOf a).toNat)
  case atStart => exact ⟨0, rfl, rfl, hfs, fun j hj => absurd hj (Nat.not_lt_zero _), rfl⟩
  case round =>
    obtain ⟨k, rfl, rfl, hk, HK, rfl⟩ := hrel
    obtain ⟨q, hq⟩ : ∃ q, f + k = q := ⟨_, rfl⟩
    obtain ⟨x, hx⟩ : ∃ x, capV s f k = x := ⟨_, rfl⟩
    have hxb : x ≤ 10000000000000207 := by rw [← hx]; exact capV_le s f (fun j => by have := bt_lt s (f + j); omega) k
    rw [hq] at hk
    rw [hq, hx]
    have HQE := hide hq
    have HXE := hide hx
    clear hq hx
    by_cases hmore : q < s.size ∧ isD (bt s q) = true
    case pos =>
      have hlt := hmore.1
      have hlti : (q : Int) < (s.size : Int) := by omega
      have hix := fun W => run_idx hlt W
      have HD := hide (fun W => l1Digit_any (bt s q) W)
      rw [hmore.2] at HD
      have hyb : 48 ≤ bt s q ∧ bt s q ≤ 57 := by have := hmore.2; unfold isD at this; exact of_decide_eq_true this
      obtain ⟨y, hy⟩ : ∃ y, bt s q = y := ⟨_, rfl⟩
      have HK2 : Hid (∀ j, j < k + 1 → f + j < s.size ∧ isD (bt s (f + j)) = true) := fun j hj => by
        by_cases e : j = k
        · subst e; rw [unhide HQE]; exact hmore
        · exact unhide HK j (by omega)
      have HCAP : Hid (capV s f (k + 1) = if x ≤ 1000000000000000 then x * 10 + (y - 48) else x) := by
        show _ = _
        rw [capV, unhide HXE, unhide HQE, hy]
      rw [hy] at hix HD hyb
      clear hy hmore
      have hsub : IntKind.u8.wrap ((y : Int) - 48) = ((y - 48 : Nat) : Int) := by simp [IntKind.wrap, IntKind.bits, IntKind.signed]; omega
      obtain ⟨d, hd⟩ : ∃ d, y - 48 = d := ⟨_, rfl⟩
      rw [hd] at hsub HCAP
      have hdb : d ≤ 9 := by omega
      have hsub2 : (y : Int) - 48 = (d : Int) := by omega
      clear hd hyb
      by_cases hv : x ≤ 1000000000000000
      case pos =>
        have hvi : (x : Int) ≤ 1000000000000000 := by omega
        have HC2 : Hid (capV s f (k + 1) = x * 10 + d) := by show _ = _; rw [unhide HCAP, if_pos hv]
        go_wp2_with (go_at_call 116; refine (unhide HD _).mono ?_; rintro e w1 ⟨rfl, hw⟩; obtain rfl := hw.symm)
        go_roundw
        case rel => exact ⟨k + 1, by have := unhide HQE; go_num, by rw [unhide HC2]; go_num, by have := unhide HQE; omega, HK2, by first | trivial | rfl⟩
        case measure => simp [intOf]; omega
      case neg =>
        have hvi : ¬ (x : Int) ≤ 1000000000000000 := by omega
        have HC2 : Hid (capV s f (k + 1) = x) := by show _ = _; rw [unhide HCAP, if_neg hv]
        go_wp2_with (go_at_call 116; refine (unhide HD _).mono ?_; rintro e w1 ⟨rfl, hw⟩; obtain rfl := hw.symm)
        go_roundw
        case rel => exact ⟨k + 1, by have := unhide HQE; go_num, by rw [unhide HC2], by have := unhide HQE; omega, HK2, by first | trivial | rfl⟩
        case measure => simp [intOf]; omega
    case neg =>
      have HEND : Hid (endOf isD s f = q) := by show _ = _; rw [endOf_is k f (unhide HK) (by rw [unhide HQE]; exact hmore)]; exact unhide HQE
      have hqf : f ≤ q := by have := unhide HQE; omega
      have HSQ := hide (fun W => unhide HST q W hk)
      by_cases hlt : q < s.size
      case neg =>
        have hlti : ¬ (q : Int) < (s.size : Int) := by omega
        have hno : high s q = false := decide_eq_false (by omega)
        rw [hno] at HSQ
        by_cases hqe : q = f
        case pos =>
          subst hqe
          have HE : Hid (numTok s i = bad 1) := numTok_bad (unhide HF) (unhide HEND) (.inl rfl)
          go_wp2_with fail
          refine bodyPost_ret (v := gotV (bad 1)) (by simp [results, Tryz.results137, go_sem, q0, q1, q2, q3, q4, q5, gotV, bad]) rfl ?_
          exact ⟨by rw [unhide HE], ((((((unhide HBQ).setCell (Nat.le_refl _) _).setCell (Nat.le_refl _) _).setCell (Nat.le_refl _) _).setCell (Nat.le_refl _) _).setCell (Nat.le_refl _) _).setCell (Nat.le_refl _) _⟩
        case neg =>
          have hqei : ¬ (q : Int) = (f : Int) := by omega
          have HNO : Hid (¬ (q = f ∨ (q < s.size ∧ isL (bt s q) = true) ∨ high s q = true)) := by rintro (h | h | h); exact hqe h; exact hlt h.1; rw [hno] at h; cases h
          by_cases hv : x ≤ 1000000000000000
          case neg =>
            have hvi : ¬ (x : Int) ≤ 1000000000000000 := by omega
            have hvi2 : (1000000000000000 : Int) < (x : Int) := by omega
            have HE : Hid (numTok s i = bad 7) := numTok_big (unhide HF) (unhide HEND) (unhide HNO) (by have h1 := (capV_eq s f k).2; rw [unhide HXE] at h1; rw [show q - f = k by have := unhide HQE; omega]; exact h1 (by omega))
            go_wp2_with (first | (go_at_call 121; refine (l1High_any _).mono ?_; rintro e w1 ⟨rfl, hw⟩; obtain rfl := hw.symm) | (go_at_call 88; refine (unhide HSQ _).mono ?_; rintro e w1 ⟨rfl, hw⟩; obtain rfl := hw.symm))
            refine bodyPost_ret (v := gotV (bad 7)) (by simp [results, Tryz.results137, go_sem, q0, q1, q2, q3, q4, q5, gotV, bad]) rfl ?_
            exact ⟨by rw [unhide HE], ((((((unhide HBQ).setCell (Nat.le_refl _) _).setCell (Nat.le_refl _) _).setCell (Nat.le_refl _) _).setCell (Nat.le_refl _) _).setCell (Nat.le_refl _) _).setCell (Nat.le_refl _) _⟩
          case pos =>
            have hvi : ¬ (1000000000000000 : Int) < (x : Int) := by omega
            have HDV : Hid (decV s f (q - f) = x) := by
              have h1 := (capV_eq s f k).1
              rw [unhide HXE] at h1
              show _ = _
              rw [show q - f = k by have := unhide HQE; omega]
              exact (h1 hv).symm
            have HE : Hid (numTok s i = ⟨1, sg * (x : Int), ⟨#[]⟩, q, 0⟩) := by
              show _ = _
              rw [numTok_ok (unhide HF) (unhide HEND) (unhide HNO) (by rw [unhide HDV]; omega), unhide HDV, unhide HB, unhide HSG]
              cases B <;> simp
            have hsgb : sg = 1 ∨ sg = -1 := by rw [unhide HSG]; cases B <;> simp
            have hmw : IntKind.i64.wrap (sg * (x : Int)) = sg * (x : Int) := by rcases hsgb with h | h <;> rw [h, IntKind.wrap_i64] <;> omega
            clear hsgb
            go_wp2_with (first | (go_at_call 121; refine (l1High_any _).mono ?_; rintro e w1 ⟨rfl, hw⟩; obtain rfl := hw.symm) | (go_at_call 88; refine (unhide HSQ _).mono ?_; rintro e w1 ⟨rfl, hw⟩; obtain rfl := hw.symm))
            refine bodyPost_ret (v := gotV ⟨1, sg * (x : Int), ⟨#[]⟩, q, 0⟩) (by simp [results, Tryz.results137, go_sem, q0, q1, q2, q3, q4, q5, gotV]) rfl ?_
            exact ⟨by rw [unhide HE], ((((((unhide HBQ).setCell (Nat.le_refl _) _).setCell (Nat.le_refl _) _).setCell (Nat.le_refl _) _).setCell (Nat.le_refl _) _).setCell (Nat.le_refl _) _).setCell (Nat.le_refl _) _⟩
      case pos =>
        have hlti : (q : Int) < (s.size : Int) := by omega
        have hdf : isD (bt s q) = false := by cases h : isD (bt s q) with | false => rfl | true => exact absurd ⟨hlt, h⟩ hmore
        have hix := fun W => run_idx hlt W
        have HD := hide (fun W => l1Digit_any (bt s q) W)
        have HL := hide (fun W => l1Letter_any (bt s q) W)
        rw [hdf] at HD
        by_cases hqe : q = f
        case pos =>
          subst hqe
          have HE : Hid (numTok s i = bad 1) := numTok_bad (unhide HF) (unhide HEND) (.inl rfl)
          go_wp2_with (first | (go_at_call 116; refine (unhide HD _).mono ?_; rintro e w1 ⟨rfl, hw⟩; obtain rfl := hw.symm))
          refine bodyPost_ret (v := gotV (bad 1)) (by simp [results, Tryz.results137, go_sem, q0, q1, q2, q3, q4, q5, gotV, bad]) rfl ?_
          exact ⟨by rw [unhide HE], ((((((unhide HBQ).setCell (Nat.le_refl _) _).setCell (Nat.le_refl _) _).setCell (Nat.le_refl _) _).setCell (Nat.le_refl _) _).setCell (Nat.le_refl _) _).setCell (Nat.le_refl _) _⟩
        case neg =>
          have hqei : ¬ (q : Int) = (f : Int) := by omega
          cases hl : isL (bt s q)
          case true =>
            rw [hl] at HL
            have HE : Hid (numTok s i = bad 1) := numTok_bad (unhide HF) (unhide HEND) (.inr (.inl ⟨hlt, hl⟩))
            go_wp2_with (first | (go_at_call 116; refine (unhide HD _).mono ?_; rintro e w1 ⟨rfl, hw⟩; obtain rfl := hw.symm) | (go_at_call 115; refine (unhide HL _).mono ?_; rintro e w1 ⟨rfl, hw⟩; obtain rfl := hw.symm))
            refine bodyPost_ret (v := gotV (bad 1)) (by simp [results, Tryz.results137, go_sem, q0, q1, q2, q3, q4, q5, gotV, bad]) rfl ?_
            exact ⟨by rw [unhide HE], ((((((unhide HBQ).setCell (Nat.le_refl _) _).setCell (Nat.le_refl _) _).setCell (Nat.le_refl _) _).setCell (Nat.le_refl _) _).setCell (Nat.le_refl _) _).setCell (Nat.le_refl _) _⟩
          case false =>
            rw [hl] at HL
            cases hh : high s q
            case true =>
              rw [hh] at HSQ
              have HE : Hid (numTok s i = bad 1) := numTok_bad (unhide HF) (unhide HEND) (.inr (.inr hh))
              go_wp2_with (first | (go_at_call 116; refine (unhide HD _).mono ?_; rintro e w1 ⟨rfl, hw⟩; obtain rfl := hw.symm) | (go_at_call 115; refine (unhide HL _).mono ?_; rintro e w1 ⟨rfl, hw⟩; obtain rfl := hw.symm) | (go_at_call 121; refine (l1High_any _).mono ?_; rintro e w1 ⟨rfl, hw⟩; obtain rfl := hw.symm) | (go_at_call 88; refine (unhide HSQ _).mono ?_; rintro e w1 ⟨rfl, hw⟩; obtain rfl := hw.symm))
              refine bodyPost_ret (v := gotV (bad 1)) (by simp [results, Tryz.results137, go_sem, q0, q1, q2, q3, q4, q5, gotV, bad]) rfl ?_
              exact ⟨by rw [unhide HE], ((((((unhide HBQ).setCell (Nat.le_refl _) _).setCell (Nat.le_refl _) _).setCell (Nat.le_refl _) _).setCell (Nat.le_refl _) _).setCell (Nat.le_refl _) _).setCell (Nat.le_refl _) _⟩
            case false =>
              rw [hh] at HSQ
              have HNO : Hid (¬ (q = f ∨ (q < s.size ∧ isL (bt s q) = true) ∨ high s q = true)) := by rintro (h | h | h); exact hqe h; rw [hl] at h; cases h.2; rw [hh] at h; cases h
              by_cases hv : x ≤ 1000000000000000
              case neg =>
                have hvi : ¬ (x : Int) ≤ 1000000000000000 := by omega
                have hvi2 : (1000000000000000 : Int) < (x : Int) := by omega
                have HE : Hid (numTok s i = bad 7) := numTok_big (unhide HF) (unhide HEND) (unhide HNO) (by have h1 := (capV_eq s f k).2; rw [unhide HXE] at h1; rw [show q - f = k by have := unhide HQE; omega]; exact h1 (by omega))
                go_wp2_with (first | (go_at_call 116; refine (unhide HD _).mono ?_; rintro e w1 ⟨rfl, hw⟩; obtain rfl := hw.symm) | (go_at_call 115; refine (unhide HL _).mono ?_; rintro e w1 ⟨rfl, hw⟩; obtain rfl := hw.symm) | (go_at_call 121; refine (l1High_any _).mono ?_; rintro e w1 ⟨rfl, hw⟩; obtain rfl := hw.symm) | (go_at_call 88; refine (unhide HSQ _).mono ?_; rintro e w1 ⟨rfl, hw⟩; obtain rfl := hw.symm))
                refine bodyPost_ret (v := gotV (bad 7)) (by simp [results, Tryz.results137, go_sem, q0, q1, q2, q3, q4, q5, gotV, bad]) rfl ?_
                exact ⟨by rw [unhide HE], ((((((unhide HBQ).setCell (Nat.le_refl _) _).setCell (Nat.le_refl _) _).setCell (Nat.le_refl _) _).setCell (Nat.le_refl _) _).setCell (Nat.le_refl _) _).setCell (Nat.le_refl _) _⟩
              case pos =>
                have hvi : ¬ (1000000000000000 : Int) < (x : Int) := by omega
                have HDV : Hid (decV s f (q - f) = x) := by
                  have h1 := (capV_eq s f k).1
                  rw [unhide HXE] at h1
                  show _ = _
                  rw [show q - f = k by have := unhide HQE; omega]
                  exact (h1 hv).symm
                have HE : Hid (numTok s i = ⟨1, sg * (x : Int), ⟨#[]⟩, q, 0⟩) := by
                  show _ = _
                  rw [numTok_ok (unhide HF) (unhide HEND) (unhide HNO) (by rw [unhide HDV]; omega), unhide HDV, unhide HB, unhide HSG]
                  cases B <;> simp
                have hsgb : sg = 1 ∨ sg = -1 := by rw [unhide HSG]; cases B <;> simp
                have hmw : IntKind.i64.wrap (sg * (x : Int)) = sg * (x : Int) := by rcases hsgb with h | h <;> rw [h, IntKind.wrap_i64] <;> omega
                clear hsgb
                go_wp2_with (first | (go_at_call 116; refine (unhide HD _).mono ?_; rintro e w1 ⟨rfl, hw⟩; obtain rfl := hw.symm) | (go_at_call 115; refine (unhide HL _).mono ?_; rintro e w1 ⟨rfl, hw⟩; obtain rfl := hw.symm) | (go_at_call 121; refine (l1High_any _).mono ?_; rintro e w1 ⟨rfl, hw⟩; obtain rfl := hw.symm) | (go_at_call 88; refine (unhide HSQ _).mono ?_; rintro e w1 ⟨rfl, hw⟩; obtain rfl := hw.symm))
                refine bodyPost_ret (v := gotV ⟨1, sg * (x : Int), ⟨#[]⟩, q, 0⟩) (by simp [results, Tryz.results137, go_sem, q0, q1, q2, q3, q4, q5, gotV]) rfl ?_
                exact ⟨by rw [unhide HE], ((((((unhide HBQ).setCell (Nat.le_refl _) _).setCell (Nat.le_refl _) _).setCell (Nat.le_refl _) _).setCell (Nat.le_refl _) _).setCell (Nat.le_refl _) _).setCell (Nat.le_refl _) _⟩

end Go.Proofs.YtinndpnilmmmjaaGreatDoor
namespace Go.Proofs.YtinndpnilmmmjaaGreatDoor
open Go.RowKit

theorem own_block {w : World} {B e size n : Nat} {v : Value} {xs : List Value} (h : w.ownsRow B e size v n xs) : ∀ k, v.ownBlock = some k → B ≤ k := by
  intro k hk
  rcases h.2 with ⟨h', _⟩ | ⟨g, cap, cur, h', hb, _⟩
  · rw [h'] at hk; simp [Value.ownBlock] at hk
  · rw [h'] at hk; simp [Value.ownBlock] at hk; omega

/-- A text of the call's own from block B on, and what stood below B is as it was. -/
structure TextG (B : Nat) (w wr : World) (v : Value) (n : Nat) (zs : List Int) : Prop where
  own : wr.ownsRow B 5 1 v n (zs.map (Value.int .u8))
  low : Below B w wr
  le : B ≤ wr.heap.size

theorem TextG.step {B n n' : Nat} {w wr w' : World} {v v' : Value} {o : Obj} {zs ys : List Int} (h : TextG B w wr v n zs) (hown : w'.ownsRow B 5 1 v' n' (zs.map (Value.int .u8) ++ ys.map (Value.int .u8))) (hg : (wr.alloc o).grownBy w' v.ownBlock) : TextG B w w' v' n' (zs ++ ys) := by
  have hb : Below B w w' := (h.low.alloc h.le o).grown hg (by have := h.le; simp; omega) (own_block h.own)
  refine ⟨by rw [List.map_append]; exact hown, hb, ?_⟩
  have h1 : Below B wr w' := ((Below.refl _ _).alloc h.le o).grown hg (by have := h.le; simp; omega) (own_block h.own)
  have := h1.size
  have := h.le
  omega

theorem TextG.keep {B n : Nat} {w wr wx : World} {v : Value} {zs : List Int} (h : TextG B w wr v n zs) (hb : Below wr.heap.size wr wx) : TextG B w wx v n zs :=
  ⟨ownsB_below h.own (Nat.le_refl _) hb, h.low.trans (hb.mono h.le), Nat.le_trans h.le hb.size⟩

theorem TextG.grow {B n n' : Nat} {w wr w' : World} {v v' : Value} {zs ys : List Int} (h : TextG B w wr v n zs) (hown : w'.ownsRow B 5 1 v' n' (zs.map (Value.int .u8) ++ ys.map (Value.int .u8))) (hg : wr.grownBy w' v.ownBlock) : TextG B w w' v' n' (zs ++ ys) := by
  have h1 : Below B wr w' := (Below.refl _ _).grown hg h.le (own_block h.own)
  refine ⟨by rw [List.map_append]; exact hown, h.low.grown hg h.le (own_block h.own), ?_⟩
  have := h1.size
  have := h.le
  omega

end Go.Proofs.YtinndpnilmmmjaaGreatDoor
namespace Go.Proofs.YtinndpnilmmmjaaGreatDoor
open Go

/-- The number behind k bytes that go on. -/
def vP (s : ByteArray) (i b : Nat) : Nat → Nat
  | 0 => b
  | k + 1 => vP s i b k * 64 + (bt s (i + (k + 1)) - 128)

theorem valid_ok (v : Nat) : Utf8.valid (v : Nat) = runeOk (v : Int) := by
  unfold Utf8.valid runeOk
  by_cases h : 0 ≤ (v : Int) ∧ (v : Int) ≤ 1114111 ∧ ((v : Int) < 55296 ∨ 57343 < (v : Int))
  · rw [decide_eq_true h]
    simp
    omega
  · rw [decide_eq_false h]
    simp
    omega

theorem encZ_cnt (v : Nat) : (encZ (v : Int)).length = if v < 128 then 1 else if v < 2048 then 2 else if v < 65536 then 3 else 4 := by
  unfold encZ
  by_cases a : v < 128
  · rw [if_pos a, if_pos (by omega)]; rfl
  · rw [if_neg a, if_neg (by omega)]
    by_cases b : v < 2048
    · rw [if_pos b, if_pos (by omega)]; rfl
    · rw [if_neg b, if_neg (by omega)]
      by_cases d : v < 65536
      · rw [if_pos d, if_pos (by omega)]; rfl
      · rw [if_neg d, if_neg (by omega)]; rfl

theorem tl_bd {s : ByteArray} {j : Nat} (h : tl s j = true) : j < s.size ∧ 128 ≤ bt s j ∧ bt s j < 192 := by
  unfold tl at h
  simpa using h

theorem vP_2 {s : ByteArray} {i : Nat} (h0 : 192 ≤ bt s i) (h1 : bt s i < 224) (t1 : tl s (i + 1) = true) : vP s i (bt s i - 192) 1 = v2 s i := by
  have := tl_bd t1
  show (bt s i - 192) * 64 + (bt s (i + 1) - 128) = _
  unfold v2
  omega

theorem vP_3 {s : ByteArray} {i : Nat} (h0 : 224 ≤ bt s i) (h1 : bt s i < 240) (t1 : tl s (i + 1) = true) (t2 : tl s (i + 2) = true) : vP s i (bt s i - 224) 2 = v3 s i := by
  have := tl_bd t1
  have := tl_bd t2
  show ((bt s i - 224) * 64 + (bt s (i + 1) - 128)) * 64 + (bt s (i + 2) - 128) = _
  unfold v3
  omega

theorem vP_4 {s : ByteArray} {i : Nat} (h0 : 240 ≤ bt s i) (h1 : bt s i < 248) (t1 : tl s (i + 1) = true) (t2 : tl s (i + 2) = true) (t3 : tl s (i + 3) = true) : vP s i (bt s i - 240) 3 = v4 s i := by
  have := tl_bd t1
  have := tl_bd t2
  have := tl_bd t3
  show (((bt s i - 240) * 64 + (bt s (i + 1) - 128)) * 64 + (bt s (i + 2) - 128)) * 64 + (bt s (i + 3) - 128) = _
  unfold v4
  omega

/-- A lead byte of n bytes: its class, and the number in it. -/
def cls (c n b : Nat) : Prop := (n = 2 ∧ 192 ≤ c ∧ c < 224 ∧ b = c - 192) ∨ (n = 3 ∧ 224 ≤ c ∧ c < 240 ∧ b = c - 224) ∨ (n = 4 ∧ 240 ≤ c ∧ c < 248 ∧ b = c - 240)

theorem rune_cut {s : ByteArray} {i n b k : Nat} (h : cls (bt s i) n b) (hk : 1 ≤ k) (hn : k < n) (ht : tl s (i + k) = false) : runeAt s i = (0, 0) := by
  rcases h with ⟨rfl, h0, h1, _⟩ | ⟨rfl, h0, h1, _⟩ | ⟨rfl, h0, h1, _⟩
  · obtain rfl : k = 1 := by omega
    rw [rune_2 h0 h1, if_neg (fun h => by rw [ht] at h; cases h.1)]
  · rw [rune_3 h0 h1, if_neg]
    rintro ⟨t1, t2, _⟩
    rcases (show k = 1 ∨ k = 2 by omega) with rfl | rfl
    · rw [ht] at t1; cases t1
    · rw [ht] at t2; cases t2
  · rw [rune_4 h0 h1, if_neg]
    rintro ⟨t1, t2, t3, _⟩
    rcases (show k = 1 ∨ k = 2 ∨ k = 3 by omega) with rfl | rfl | rfl
    · rw [ht] at t1; cases t1
    · rw [ht] at t2; cases t2
    · rw [ht] at t3; cases t3

set_option maxRecDepth 20000 in
theorem rune_fin {s : ByteArray} {i n b : Nat} (h : cls (bt s i) n b) (ht : ∀ k, 1 ≤ k → k < n → tl s (i + k) = true) :
    vP s i b (n - 1) ≤ 2097151 ∧ runeAt s i = if (encZ (vP s i b (n - 1) : Nat)).length = n ∧ runeOk (vP s i b (n - 1) : Nat) = true then (vP s i b (n - 1), n) else (0, 0) := by
  obtain ⟨Z, hZ⟩ : ∃ Z, Z = 2097151 := ⟨_, rfl⟩
  rw [← hZ]
  rcases h with ⟨hn, h0, h1, hb0⟩ | ⟨hn, h0, h1, hb0⟩ | ⟨hn, h0, h1, hb0⟩ <;> subst hn <;> subst hb0
  · have t1 := ht 1 (by omega) (by omega)
    have hv := vP_2 h0 h1 t1
    have hb := tl_bd t1
    have hlt : v2 s i < 2048 := by unfold v2; omega
    rw [show 2 - 1 = 1 from rfl, hv]
    refine ⟨by omega, ?_⟩
    rw [rune_2 h0 h1, encZ_cnt]
    by_cases hc : 128 ≤ v2 s i
    · rw [if_pos ⟨t1, hc⟩, if_neg (show ¬ v2 s i < 128 by omega), if_pos hlt, if_pos ⟨rfl, decide_eq_true (by omega)⟩]
    · rw [if_neg (fun h => hc h.2), if_pos (show v2 s i < 128 by omega), if_neg (fun h => by have := h.1; omega)]
  · have t1 := ht 1 (by omega) (by omega)
    have t2 := ht 2 (by omega) (by omega)
    have hv := vP_3 h0 h1 t1 t2
    have hlt : v3 s i < 65536 := by unfold v3; omega
    rw [show 3 - 1 = 2 from rfl, hv]
    refine ⟨by omega, ?_⟩
    rw [rune_3 h0 h1, encZ_cnt, valid_ok]
    by_cases hc : 2048 ≤ v3 s i
    · rw [if_neg (show ¬ v3 s i < 128 by omega), if_neg (show ¬ v3 s i < 2048 by omega), if_pos hlt]
      by_cases ho : runeOk (v3 s i : Nat) = true
      · rw [if_pos ⟨t1, t2, hc, ho⟩, if_pos ⟨rfl, ho⟩]
      · rw [if_neg (fun h => ho h.2.2.2), if_neg (fun h => ho h.2)]
    · rw [if_neg (fun h => hc h.2.2.1), if_neg]
      rintro ⟨h, _⟩
      split at h
      · omega
      · rw [if_pos (by omega)] at h; omega
  · have t1 := ht 1 (by omega) (by omega)
    have t2 := ht 2 (by omega) (by omega)
    have t3 := ht 3 (by omega) (by omega)
    have hv := vP_4 h0 h1 t1 t2 t3
    have hlt : v4 s i < 2097152 := by unfold v4; omega
    rw [show 4 - 1 = 3 from rfl, hv]
    refine ⟨by omega, ?_⟩
    rw [rune_4 h0 h1, encZ_cnt, valid_ok]
    by_cases hc : 65536 ≤ v4 s i
    · rw [if_neg (show ¬ v4 s i < 128 by omega), if_neg (show ¬ v4 s i < 2048 by omega), if_neg (show ¬ v4 s i < 65536 by omega)]
      by_cases ho : runeOk (v4 s i : Nat) = true
      · rw [if_pos ⟨t1, t2, t3, hc, ho⟩, if_pos ⟨rfl, ho⟩]
      · rw [if_neg (fun h => ho h.2.2.2.2), if_neg (fun h => ho h.2)]
    · rw [if_neg (fun h => hc h.2.2.2.1), if_neg]
      rintro ⟨h, _⟩
      split at h
      · omega
      · split at h
        · omega
        · rw [if_pos (by omega)] at h; omega

end Go.Proofs.YtinndpnilmmmjaaGreatDoor
namespace Go.Proofs.YtinndpnilmmmjaaGreatDoor
open Go.RowKit

/-- Bytes as numbers. -/
def uz (l : List UInt8) : List Int := l.map fun b => ((b.toNat : Nat) : Int)

theorem uz_len (l : List UInt8) : (uz l).length = l.length := by unfold uz; simp
theorem uz_app (l m : List UInt8) : uz (l ++ m) = uz l ++ uz m := by unfold uz; simp
theorem bz_uz (s : ByteArray) : bz s = uz s.data.toList := rfl

/-- '[]byte(s)'. -/
theorem conv_str (w : World) (s : ByteArray) : ∃ cap W1, (convert 9 33 (.string s)).run Tryz.prog w = .ok (.slice (some ⟨w.heap.size, 0, none⟩) s.size cap) W1 ∧ s.size ≤ cap ∧ RowB W1 (some ⟨w.heap.size, 0, none⟩) s.size (bz s) ∧ Below w.heap.size w W1 ∧ w.heap.size < W1.heap.size := by
  have h := run_bytes_of_string (P := Tryz.prog) w 9 33 5 s Tryz.underlying9 Tryz.underlying33 Tryz.underlying5
  refine ⟨_, _, h, grownCap_ge w _ 0 _, ?_, (Below.refl _ w).drew.alloc (by simp) _, by simp⟩
  refine ⟨bz_len s, .inr ⟨w.heap.size, 0, rfl, by simp, fun i hi => ?_⟩⟩
  obtain ⟨C, hC⟩ : ∃ C, bytesRow s (grownCap w s.size 0 5) = C := ⟨_, rfl⟩
  have hCi : C[i]? = some (.int .u8 ((bz s).getD i 0)) := by
    rw [← hC, bz_get hi]
    unfold bytesRow
    have hi' : i < s.data.size := hi
    have hsz : i < (s.data.map (fun b => Value.int .u8 b.toNat)).size := by simpa using hi'
    rw [Array.getElem?_append_left hsz, bt_get hi, ByteArray.getElem_eq_getElem_data]
    rw [Array.getElem?_map, Array.getElem?_eq_getElem hi']
    rfl
  rw [hC]
  show (World.alloc _ _).cell? _ = _
  have hb : (w.drew.alloc (.cells C 5 (C.size, C.size + 1))).heap[w.heap.size]? = some (.cells C 5 (C.size, C.size + 1)) := by
    show (w.heap.push _)[w.heap.size]? = _
    simp
  unfold World.cell?
  rw [Nat.zero_add]
  show (match (w.drew.alloc (.cells C 5 (C.size, C.size + 1))).heap[w.heap.size]? with | some (Obj.cells c _ _) => c[i]? | _ => none) = _
  rw [hb]
  exact hCi

/-- 'string(b)'. -/
theorem conv_back {w : World} {b off cap : Nat} {l : List UInt8} (h : RowB w (some ⟨b, off, none⟩) l.length (uz l)) : (convert 33 9 (.slice (some ⟨b, off, none⟩) l.length cap)).run Tryz.prog w = .ok (.string ⟨l.toArray⟩) w := by
  refine run_convert_bytes_back (P := Tryz.prog) w 33 9 5 ⟨b, off, none⟩ cap l Tryz.underlying33 Tryz.underlying5 Tryz.underlying9 (fun j hj => ?_)
  have h2 : (⟨b, off, none⟩ : Addr).add j = ⟨b, off + j, none⟩ := by by_cases h : j = 0 <;> simp [Addr.add, h]
  rcases h.at_ with h0 | ⟨b', o', e, _, hc⟩
  · omega
  · cases e
    rw [h2, hc j hj]
    simp [uz, hj]

/-- A character's bytes end within the text. -/
theorem rune_end {s : ByteArray} {i : Nat} (h : i < s.size) : i + (runeAt s i).2 ≤ s.size ∧ (runeAt s i).2 ≤ 4 := by
  have hb := bt_lt s i
  by_cases h1 : bt s i < 128
  · rw [rune_ascii h1]; exact ⟨by simp; omega, by simp⟩
  · by_cases h2 : bt s i < 192 ∨ 248 ≤ bt s i
    · rw [rune_0 (by omega) h2]; exact ⟨by simp; omega, by simp⟩
    · by_cases h3 : bt s i < 224
      · rw [rune_2 (by omega) h3]
        split
        · rename_i h'; have := tl_bd h'.1; exact ⟨by simp; omega, by simp⟩
        · exact ⟨by simp; omega, by simp⟩
      · by_cases h4 : bt s i < 240
        · rw [rune_3 (by omega) h4]
          split
          · rename_i h'; have := tl_bd h'.2.1; exact ⟨by simp; omega, by simp⟩
          · exact ⟨by simp; omega, by simp⟩
        · rw [rune_4 (by omega) (by omega)]
          split
          · rename_i h'; have := tl_bd h'.2.2.1; exact ⟨by simp; omega, by simp⟩
          · exact ⟨by simp; omega, by simp⟩

/-- A piece of a text in memory. -/
theorem RowB.piece {w : World} {b off : Nat} {s : ByteArray} (h : RowB w (some ⟨b, off, none⟩) s.size (bz s)) {i n : Nat} (hn : i + n ≤ s.size) : RowB w (some ⟨b, off + i, none⟩) n (uz (s.extract i (i + n)).data.toList) := by
  have hl : (s.extract i (i + n)).data.toList.length = n := by rw [sub_list, List.length_take, List.length_drop, ← Lib.size_eq]; omega
  refine ⟨by rw [uz_len, hl], ?_⟩
  by_cases h0 : n = 0
  · exact .inl h0
  · rcases h.at_ with h' | ⟨b', o', e, hlt, hc⟩
    · omega
    · cases e
      refine .inr ⟨b, _, rfl, hlt, fun k hk => ?_⟩
      rw [Nat.add_assoc, hc (i + k) (by omega), bz_uz, sub_list]
      unfold uz
      have hik : i + k < s.data.toList.length := by rw [← Lib.size_eq]; omega
      simp only [List.getD_eq_getElem?_getD, List.getElem?_map, List.getElem?_take, List.getElem?_drop]
      rw [if_pos (by omega)]

end Go.Proofs.YtinndpnilmmmjaaGreatDoor
namespace Go.Proofs.YtinndpnilmmmjaaGreatDoor
open Go.RowKit

set_option maxHeartbeats 400000 in
theorem l1RuneOk_any (v : Int) (w : World) : Calls Tryz.prog 180 #[.int .i64 v] w fun e w' => e = .returned (.bool (runeOk v)) ∧ w' = w := by
  by_cases h1 : 0 ≤ v
  · by_cases h2 : v ≤ 1114111
    · by_cases h3 : v < 55296
      · have HE : Hid (runeOk v = true) := decide_eq_true ⟨h1, h2, .inl h3⟩
        go_enter Tryz.func180, Tryz.ntmps180
        go_wp2
        go_ret
        exact ⟨ret_bool HE.out.symm, rfl⟩
      · by_cases h4 : 57343 < v
        · have HE : Hid (runeOk v = true) := decide_eq_true ⟨h1, h2, .inr h4⟩
          go_enter Tryz.func180, Tryz.ntmps180
          go_wp2
          go_ret
          exact ⟨ret_bool HE.out.symm, rfl⟩
        · have HE : Hid (runeOk v = false) := decide_eq_false (fun h => by omega)
          go_enter Tryz.func180, Tryz.ntmps180
          go_wp2
          go_ret
          exact ⟨ret_bool HE.out.symm, rfl⟩
    · have HE : Hid (runeOk v = false) := decide_eq_false (fun h => by omega)
      go_enter Tryz.func180, Tryz.ntmps180
      go_wp2
      go_ret
      exact ⟨ret_bool HE.out.symm, rfl⟩
  · have HE : Hid (runeOk v = false) := decide_eq_false (fun h => by omega)
    go_enter Tryz.func180, Tryz.ntmps180
    go_wp2
    go_ret
    exact ⟨ret_bool HE.out.symm, rfl⟩

theorem l1RuneOk_eq (v : Int) (w : World) (b : Bool) (h : Hid (runeOk v = b)) : Calls Tryz.prog 180 #[.int .i64 v] w fun e w' => e = .returned (.bool b) ∧ w' = w := by
  rw [← h.out]; exact l1RuneOk_any v w

end Go.Proofs.YtinndpnilmmmjaaGreatDoor
namespace Go.Proofs.YtinndpnilmmmjaaGreatDoor
open Go.RowKit

/-- What l1Bytes gives: a slice of the call's own that reads as zs. -/
def GivesB (w : World) (zs : List Int) (e : Ending) (w' : World) : Prop := ∃ g, e = .returned (.slice (some ⟨g, 0, none⟩) zs.length zs.length) ∧ RowB w' (some ⟨g, 0, none⟩) zs.length zs ∧ Below w.heap.size w w'

theorem givesB_new (w : World) (zs : List Int) : GivesB w zs (.returned (.slice (some ⟨w.heap.size, 0, none⟩) zs.length zs.length)) (w.alloc (.cells (zs.map (Value.int .u8)).toArray 5)) :=
  ⟨w.heap.size, rfl, RowB.new w zs, (Below.refl _ _).alloc (Nat.le_refl _) _⟩

theorem byteN {a : Int} {b : Nat} (h : a = (b : Int)) (hb : b < 256) : IntKind.u8.wrap a = (b : Int) := by
  subst h
  unfold IntKind.wrap
  simp [IntKind.bits, IntKind.signed]
  omega

set_option maxHeartbeats 2000000 in
theorem l1Bytes_any (x : Nat) (hx : x ≤ 2097151) (w : World) : Calls Tryz.prog 179 #[.int .i64 (x : Nat)] w (GivesB w (encZ x)) := by
  by_cases h1 : x < 128
  · have e : encZ (x : Int) = [(x : Int)] := by unfold encZ; rw [if_pos (by omega)]
    rw [e]
    have k1 : (x : Int) < 128 := by omega
    have w1 : IntKind.u8.wrap (x : Int) = (x : Int) := byteN rfl (by omega)
    clear e
    go_enter Tryz.func179, Tryz.ntmps179
    go_wp2_with fail
    go_ret
    exact givesB_new w [(x : Int)]
  · have k1 : ¬ (x : Int) < 128 := by omega
    by_cases h2 : x < 2048
    · have k2 : (x : Int) < 2048 := by omega
      obtain ⟨a, ha⟩ : ∃ a, x / 64 = a := ⟨_, rfl⟩
      obtain ⟨b, hb⟩ : ∃ b, x % 64 = b := ⟨_, rfl⟩
      have e : encZ (x : Int) = [((192 + a : Nat) : Int), ((128 + b : Nat) : Int)] := by
        unfold encZ
        rw [if_neg k1, if_pos k2, show 192 + (x : Int) / 64 = ((192 + a : Nat) : Int) by omega, show 128 + (x : Int) % 64 = ((128 + b : Nat) : Int) by omega]
      rw [e]
      clear e
      obtain ⟨A, hA⟩ : ∃ A, 192 + a = A := ⟨_, rfl⟩
      obtain ⟨B, hB⟩ : ∃ B, 128 + b = B := ⟨_, rfl⟩
      rw [hA, hB]
      have q1 : (x : Int).tdiv 64 = (a : Int) := by rw [Int.tdiv_eq_ediv_of_nonneg (by omega)]; omega
      have q1' : (x : Int) / 64 = (a : Int) := by omega
      have q2 : (x : Int).tmod 64 = (b : Int) := by rw [Int.tmod_eq_emod_of_nonneg (by omega)]; omega
      have q2' : (x : Int) % 64 = (b : Int) := by omega
      have s1 : 192 + (a : Int) = (A : Int) := by omega
      have s2 : 128 + (b : Int) = (B : Int) := by omega
      have w1 : IntKind.u8.wrap (A : Int) = (A : Int) := byteN rfl (by omega)
      have w2 : IntKind.u8.wrap (B : Int) = (B : Int) := byteN rfl (by omega)
      clear ha hb hA hB
      go_enter Tryz.func179, Tryz.ntmps179
      go_wp2_with fail
      go_ret
      exact givesB_new w [(A : Int), (B : Int)]
    · have k2 : ¬ (x : Int) < 2048 := by omega
      by_cases h3 : x < 65536
      · have k3 : (x : Int) < 65536 := by omega
        obtain ⟨a, ha⟩ : ∃ a, x / 4096 = a := ⟨_, rfl⟩
        obtain ⟨m, hm⟩ : ∃ m, x / 64 = m := ⟨_, rfl⟩
        obtain ⟨b, hb⟩ : ∃ b, m % 64 = b := ⟨_, rfl⟩
        obtain ⟨c, hc⟩ : ∃ c, x % 64 = c := ⟨_, rfl⟩
        have e : encZ (x : Int) = [((224 + a : Nat) : Int), ((128 + b : Nat) : Int), ((128 + c : Nat) : Int)] := by
          unfold encZ
          rw [if_neg k1, if_neg k2, if_pos k3, show 224 + (x : Int) / 4096 = ((224 + a : Nat) : Int) by omega, show 128 + (x : Int) / 64 % 64 = ((128 + b : Nat) : Int) by omega, show 128 + (x : Int) % 64 = ((128 + c : Nat) : Int) by omega]
        rw [e]
        clear e
        obtain ⟨A, hA⟩ : ∃ A, 224 + a = A := ⟨_, rfl⟩
        obtain ⟨B, hB⟩ : ∃ B, 128 + b = B := ⟨_, rfl⟩
        obtain ⟨C, hC⟩ : ∃ C, 128 + c = C := ⟨_, rfl⟩
        rw [hA, hB, hC]
        have q1 : (x : Int).tdiv 4096 = (a : Int) := by rw [Int.tdiv_eq_ediv_of_nonneg (by omega)]; omega
        have q1' : (x : Int) / 4096 = (a : Int) := by omega
        have q3 : (x : Int).tdiv 64 = (m : Int) := by rw [Int.tdiv_eq_ediv_of_nonneg (by omega)]; omega
        have q3' : (x : Int) / 64 = (m : Int) := by omega
        have q4 : (m : Int).tmod 64 = (b : Int) := by rw [Int.tmod_eq_emod_of_nonneg (by omega)]; omega
        have q4' : (m : Int) % 64 = (b : Int) := by omega
        have q2 : (x : Int).tmod 64 = (c : Int) := by rw [Int.tmod_eq_emod_of_nonneg (by omega)]; omega
        have q2' : (x : Int) % 64 = (c : Int) := by omega
        have s1 : 224 + (a : Int) = (A : Int) := by omega
        have s2 : 128 + (b : Int) = (B : Int) := by omega
        have s3 : 128 + (c : Int) = (C : Int) := by omega
        have w1 : IntKind.u8.wrap (A : Int) = (A : Int) := byteN rfl (by omega)
        have w2 : IntKind.u8.wrap (B : Int) = (B : Int) := byteN rfl (by omega)
        have w3 : IntKind.u8.wrap (C : Int) = (C : Int) := byteN rfl (by omega)
        clear ha hb hc hm hA hB hC
        go_enter Tryz.func179, Tryz.ntmps179
        go_wp2_with fail
        go_ret
        exact givesB_new w [(A : Int), (B : Int), (C : Int)]
      · have k3 : ¬ (x : Int) < 65536 := by omega
        obtain ⟨a, ha⟩ : ∃ a, x / 262144 = a := ⟨_, rfl⟩
        obtain ⟨l, hl⟩ : ∃ l, x / 4096 = l := ⟨_, rfl⟩
        obtain ⟨b, hb⟩ : ∃ b, l % 64 = b := ⟨_, rfl⟩
        obtain ⟨m, hm⟩ : ∃ m, x / 64 = m := ⟨_, rfl⟩
        obtain ⟨c, hc⟩ : ∃ c, m % 64 = c := ⟨_, rfl⟩
        obtain ⟨d, hd⟩ : ∃ d, x % 64 = d := ⟨_, rfl⟩
        have e : encZ (x : Int) = [((240 + a : Nat) : Int), ((128 + b : Nat) : Int), ((128 + c : Nat) : Int), ((128 + d : Nat) : Int)] := by
          unfold encZ
          rw [if_neg k1, if_neg k2, if_neg k3, show 240 + (x : Int) / 262144 = ((240 + a : Nat) : Int) by omega, show 128 + (x : Int) / 4096 % 64 = ((128 + b : Nat) : Int) by omega, show 128 + (x : Int) / 64 % 64 = ((128 + c : Nat) : Int) by omega, show 128 + (x : Int) % 64 = ((128 + d : Nat) : Int) by omega]
        rw [e]
        clear e
        obtain ⟨A, hA⟩ : ∃ A, 240 + a = A := ⟨_, rfl⟩
        obtain ⟨B, hB⟩ : ∃ B, 128 + b = B := ⟨_, rfl⟩
        obtain ⟨C, hC⟩ : ∃ C, 128 + c = C := ⟨_, rfl⟩
        obtain ⟨E, hE⟩ : ∃ E, 128 + d = E := ⟨_, rfl⟩
        rw [hA, hB, hC, hE]
        have q1 : (x : Int).tdiv 262144 = (a : Int) := by rw [Int.tdiv_eq_ediv_of_nonneg (by omega)]; omega
        have q1' : (x : Int) / 262144 = (a : Int) := by omega
        have q5 : (x : Int).tdiv 4096 = (l : Int) := by rw [Int.tdiv_eq_ediv_of_nonneg (by omega)]; omega
        have q5' : (x : Int) / 4096 = (l : Int) := by omega
        have q6 : (l : Int).tmod 64 = (b : Int) := by rw [Int.tmod_eq_emod_of_nonneg (by omega)]; omega
        have q6' : (l : Int) % 64 = (b : Int) := by omega
        have q3 : (x : Int).tdiv 64 = (m : Int) := by rw [Int.tdiv_eq_ediv_of_nonneg (by omega)]; omega
        have q3' : (x : Int) / 64 = (m : Int) := by omega
        have q4 : (m : Int).tmod 64 = (c : Int) := by rw [Int.tmod_eq_emod_of_nonneg (by omega)]; omega
        have q4' : (m : Int) % 64 = (c : Int) := by omega
        have q2 : (x : Int).tmod 64 = (d : Int) := by rw [Int.tmod_eq_emod_of_nonneg (by omega)]; omega
        have q2' : (x : Int) % 64 = (d : Int) := by omega
        have s1 : 240 + (a : Int) = (A : Int) := by omega
        have s2 : 128 + (b : Int) = (B : Int) := by omega
        have s3 : 128 + (c : Int) = (C : Int) := by omega
        have s4 : 128 + (d : Int) = (E : Int) := by omega
        have w1 : IntKind.u8.wrap (A : Int) = (A : Int) := byteN rfl (by omega)
        have w2 : IntKind.u8.wrap (B : Int) = (B : Int) := byteN rfl (by omega)
        have w3 : IntKind.u8.wrap (C : Int) = (C : Int) := byteN rfl (by omega)
        have w4 : IntKind.u8.wrap (E : Int) = (E : Int) := byteN rfl (by omega)
        clear ha hb hc hd hm hl hA hB hC hE
        go_enter Tryz.func179, Tryz.ntmps179
        go_wp2_with fail
        go_ret
        exact givesB_new w [(A : Int), (B : Int), (C : Int), (E : Int)]

end Go.Proofs.YtinndpnilmmmjaaGreatDoor
namespace Go.Proofs.YtinndpnilmmmjaaGreatDoor
open Go.RowKit

/-- What l1Rune gives. -/
def GivesRune (w : World) (s : ByteArray) (i : Nat) (e : Ending) (w' : World) : Prop := e = .returned (.tuple #[.int .i64 ((runeAt s i).1 : Nat), .int .i64 ((runeAt s i).2 : Nat)]) ∧ Below w.heap.size w w'

set_option maxRecDepth 20000 in
set_option maxHeartbeats 2000000 in
theorem l1Rune_low (a : Option Addr) (cap : Nat) (s : ByteArray) (i : Nat) (w : World) (h : RowB w a s.size (bz s)) (hi : i < s.size) (hl : bt s i < 128) :
    Calls Tryz.prog 139 #[.slice a s.size cap, .int .i64 (i : Nat)] w (GivesRune w s i) := by
  have HE := hide (rune_ascii hl)
  have hii : (i : Int) < (s.size : Int) := by omega
  obtain ⟨b, off, rfl, -, hc⟩ := h.get hi
  rw [bz_get hi] at hc
  obtain ⟨c, hcc⟩ : ∃ c, bt s i = c := ⟨_, rfl⟩
  rw [hcc] at hc hl HE
  have hli : (c : Int) < 128 := by omega
  clear h hcc
  go_enter Tryz.func139, Tryz.ntmps139
  go_wp2
  go_ret2
  exact ⟨by rw [unhide HE]; rfl, Below.refl _ _⟩

set_option maxRecDepth 20000 in
set_option maxHeartbeats 2000000 in
theorem l1Rune_none (a : Option Addr) (cap : Nat) (s : ByteArray) (i : Nat) (w : World) (h : RowB w a s.size (bz s)) (hi : i < s.size) (hl : 128 ≤ bt s i) (hn : bt s i < 192 ∨ 248 ≤ bt s i) :
    Calls Tryz.prog 139 #[.slice a s.size cap, .int .i64 (i : Nat)] w (GivesRune w s i) := by
  have HE := hide (rune_0 hl hn)
  have hii : (i : Int) < (s.size : Int) := by omega
  obtain ⟨b, off, rfl, -, hc⟩ := h.get hi
  rw [bz_get hi] at hc
  obtain ⟨c, hcc⟩ : ∃ c, bt s i = c := ⟨_, rfl⟩
  rw [hcc] at hc hl hn
  have hli : ¬ (c : Int) < 128 := by omega
  have hcb : c < 256 := by rw [← hcc]; exact bt_lt s i
  clear h hcc
  rcases hn with hn | hn
  · have k1 : ¬ (192 : Int) ≤ (c : Int) := by omega
    have k2 : ¬ (224 : Int) ≤ (c : Int) := by omega
    have k3 : ¬ (240 : Int) ≤ (c : Int) := by omega
    go_enter Tryz.func139, Tryz.ntmps139
    go_wp2_with fail
    go_loopw [9] (fun k wr => k = .int .i64 1 ∧ wr = w) (fun _ _ => 0)
    case atStart => exact ⟨rfl, rfl⟩
    case round =>
      obtain ⟨rfl, rfl⟩ := hrel
      go_wp2_with fail
      go_ret2
      exact ⟨by rw [unhide HE]; rfl, Below.refl _ _⟩
  · have k1 : (192 : Int) ≤ (c : Int) := by omega
    have k2 : (224 : Int) ≤ (c : Int) := by omega
    have k3 : (240 : Int) ≤ (c : Int) := by omega
    have j1 : ¬ (c : Int) < 224 := by omega
    have j2 : ¬ (c : Int) < 240 := by omega
    have j3 : ¬ (c : Int) < 248 := by omega
    go_enter Tryz.func139, Tryz.ntmps139
    go_wp2_with fail
    go_loopw [9] (fun k wr => k = .int .i64 1 ∧ wr = w) (fun _ _ => 0)
    case atStart => exact ⟨rfl, rfl⟩
    case round =>
      obtain ⟨rfl, rfl⟩ := hrel
      go_wp2_with fail
      go_ret2
      exact ⟨by rw [unhide HE]; rfl, Below.refl _ _⟩

set_option maxRecDepth 20000 in
set_option maxHeartbeats 4000000 in
theorem l1Rune_2 (a : Option Addr) (cap : Nat) (s : ByteArray) (i : Nat) (w : World) (h : RowB w a s.size (bz s)) (hi : i < s.size) (hs : s.size ≤ 17592186044416) (hl : 192 ≤ bt s i) (hh : bt s i < 224) :
    Calls Tryz.prog 139 #[.slice a s.size cap, .int .i64 (i : Nat)] w (GivesRune w s i) := by
  obtain ⟨bs, hbs⟩ : ∃ b, b = bt s i - 192 := ⟨_, rfl⟩
  have HCL : Hid (cls (bt s i) 2 bs) := by show cls _ _ _; unfold cls; omega
  have hii : (i : Int) < (s.size : Int) := by omega
  have HROW := hide h
  obtain ⟨b, off, rfl, -, hc⟩ := h.get hi
  rw [bz_get hi] at hc
  obtain ⟨c, hcc⟩ : ∃ c, bt s i = c := ⟨_, rfl⟩
  rw [hcc] at hc hl hh hbs
  have hli : ¬ (c : Int) < 128 := by omega
  have k1 : (192 : Int) ≤ (c : Int) := by omega
  have j1 : (c : Int) < 224 := by omega
  have hbi : (c : Int) - 192 = (bs : Int) := by omega
  have HTL : Hid (∀ j W, Below w.heap.size w W → Calls Tryz.prog 178 #[.slice (some ⟨b, off, none⟩) s.size cap, .int .i64 (j : Nat)] W fun e w' => e = .returned (.bool (tl s j)) ∧ w' = W) := fun j W hb => l1Tail_any _ cap s j W (h.below (Nat.le_refl _) hb)
  clear h hcc hbs
  go_enter Tryz.func139, Tryz.ntmps139
  go_wp2_with fail
  go_loopw [8, 9] (fun v k wr => ∃ (x m : Nat), v = .int .i64 x ∧ k = .int .i64 m ∧ 1 ≤ m ∧ m ≤ 2 ∧ Hid (x = vP s i bs (m - 1)) ∧ Hid (∀ j, 1 ≤ j → j < m → tl s (i + j) = true) ∧ x ≤ 2097151 ∧ Hid (x < 32 * 64 ^ (m - 1)) ∧ wr = w) (fun _ k _ => 2 - (intOf k).toNat)
  case atStart => exact ⟨bs, 1, rfl, rfl, by omega, by omega, rfl, fun j h1 h2 => by omega, by omega, by show bs < 32 * 64 ^ 0; omega, rfl⟩
  case round =>
    obtain ⟨x, m, rfl, rfl, hm1, hm2, HX, HT, hxb, HXK, rfl⟩ := hrel
    by_cases hlt : m < 2
    case pos =>
      have hlti : (m : Int) < 2 := by omega
      have hw1 : IntKind.i64.wrap ((i : Int) + (m : Int)) = ((i + m : Nat) : Int) := by rw [IntKind.wrap_i64]; omega
      have hw2 : (i : Int) + (m : Int) = ((i + m : Nat) : Int) := by omega
      have HTJ := hide (unhide HTL (i + m) wr (Below.refl _ _))
      obtain ⟨q, hq⟩ : ∃ q, i + m = q := ⟨_, rfl⟩
      rw [hq] at hw1 hw2 HTJ
      have HQ := hide hq
      clear hq
      cases ht : tl s q with
      | false =>
        have HE := hide (rune_cut (unhide HCL) hm1 hlt (by rw [unhide HQ]; exact ht))
        rw [ht] at HTJ
        clear ht
        go_wp2_with fail
        refine (unhide HTJ).mono ?_
        rintro e w1 ⟨rfl, hw⟩
        obtain rfl := hw.symm
        go_wp2_with fail
        go_ret2
        exact ⟨by rw [unhide HE]; rfl, Below.refl _ _⟩
      | true =>
        have hb := tl_bd ht
        have hqi : (q : Int) < (s.size : Int) := by omega
        obtain ⟨_, _, e, -, hc2⟩ := (unhide HROW).get hb.1
        cases e
        rw [bz_get hb.1] at hc2
        obtain ⟨y, hy⟩ : ∃ y, bt s q = y := ⟨_, rfl⟩
        rw [hy] at hc2 hb
        rw [ht] at HTJ
        have HT2 : Hid (∀ j, 1 ≤ j → j < m + 1 → tl s (i + j) = true) := fun j h1 h2 => by
          by_cases hj : j = m
          · subst hj; rw [unhide HQ]; exact ht
          · exact unhide HT j h1 (by omega)
        have HX2 : Hid (x * 64 + (y - 128) = vP s i bs (m + 1 - 1)) := by
          show _ = _
          rw [show m + 1 - 1 = (m - 1) + 1 by omega]
          show _ = vP s i bs (m - 1) * 64 + (bt s (i + ((m - 1) + 1)) - 128)
          rw [← unhide HX, show i + (m - 1 + 1) = q by have := unhide HQ; omega, hy]
        have HK2 : Hid (x * 64 + (y - 128) < 32 * 64 ^ (m + 1 - 1)) := by
          have h1 := unhide HXK
          show _ < _
          rw [show m + 1 - 1 = (m - 1) + 1 by omega, Nat.pow_succ, ← Nat.mul_assoc]
          omega
        have hx2 : x * 64 + (y - 128) ≤ 2097151 := by
          have h1 := unhide HK2
          rcases (show m = 1 by omega) with rfl <;> simp at h1 <;> omega
        obtain ⟨z, hz⟩ : ∃ z, x * 64 + (y - 128) = z := ⟨_, rfl⟩
        rw [hz] at HX2 hx2 HK2
        have hzi : (x : Int) * 64 + (y : Int) - 128 = (z : Int) := by omega
        clear ht hy hz
        go_wp2_with fail
        refine (unhide HTJ).mono ?_
        rintro e w1 ⟨rfl, hw⟩
        obtain rfl := hw.symm
        go_wp2_with fail
        go_roundw
        case rel => exact ⟨z, m + 1, by go_num, by go_num, by omega, by omega, HX2, HT2, hx2, HK2, by first | trivial | rfl⟩
        case measure => simp [intOf]; omega
    case neg =>
      obtain rfl : m = 2 := by omega
      obtain ⟨hvb, hfin⟩ := rune_fin (unhide HCL) (unhide HT)
      rw [← unhide HX] at hfin
      have HF := hide hfin
      have HB := hide (fun W => l1Bytes_any x hxb W)
      have HO := hide (fun W => l1RuneOk_any (x : Int) W)
      obtain ⟨L, hL⟩ : ∃ L, encZ (x : Int) = L := ⟨_, rfl⟩
      rw [hL] at HB hfin HF
      obtain ⟨o, ho⟩ : ∃ o, runeOk (x : Int) = o := ⟨_, rfl⟩
      rw [ho] at HO HF
      clear hfin hvb hL ho HX HT HCL
      by_cases hLL : L.length = 2
      case pos =>
        have hLi : ((L.length : Nat) : Int) = 2 := by omega
        have HLL := hide hLL
        clear hLL
        cases o with
        | true =>
          have HE : Hid (runeAt s i = (x, 2)) := by show _ = _; rw [unhide HF, if_pos ⟨unhide HLL, rfl⟩]
          go_wp2_with (first | (go_at_call 179; refine (unhide HB _).mono ?_; rintro e w1 ⟨g, rfl, hrow, hb1⟩; have HB1 := hide hb1; clear hrow hb1) | (go_at_call 180; refine (unhide HO _).mono ?_; rintro e w2 ⟨rfl, hw⟩; obtain rfl := hw.symm))
          go_ret2
          exact ⟨by rw [unhide HE]; rfl, unhide HB1⟩
        | false =>
          have HE : Hid (runeAt s i = (0, 0)) := by show _ = _; rw [unhide HF, if_neg (fun h => by cases h.2)]
          go_wp2_with (first | (go_at_call 179; refine (unhide HB _).mono ?_; rintro e w1 ⟨g, rfl, hrow, hb1⟩; have HB1 := hide hb1; clear hrow hb1) | (go_at_call 180; refine (unhide HO _).mono ?_; rintro e w2 ⟨rfl, hw⟩; obtain rfl := hw.symm))
          go_ret2
          exact ⟨by rw [unhide HE]; rfl, unhide HB1⟩
      case neg =>
        have hLi : ¬ ((L.length : Nat) : Int) = 2 := by omega
        have HE : Hid (runeAt s i = (0, 0)) := by show _ = _; rw [unhide HF, if_neg (fun h => hLL h.1)]
        clear hLL
        go_wp2_with (go_at_call 179; refine (unhide HB _).mono ?_; rintro e w1 ⟨g, rfl, hrow, hb1⟩; have HB1 := hide hb1; clear hrow hb1)
        go_ret2
        exact ⟨by rw [unhide HE]; rfl, unhide HB1⟩

set_option maxRecDepth 20000 in
set_option maxHeartbeats 4000000 in
theorem l1Rune_3 (a : Option Addr) (cap : Nat) (s : ByteArray) (i : Nat) (w : World) (h : RowB w a s.size (bz s)) (hi : i < s.size) (hs : s.size ≤ 17592186044416) (hl : 224 ≤ bt s i) (hh : bt s i < 240) :
    Calls Tryz.prog 139 #[.slice a s.size cap, .int .i64 (i : Nat)] w (GivesRune w s i) := by
  obtain ⟨bs, hbs⟩ : ∃ b, b = bt s i - 224 := ⟨_, rfl⟩
  have HCL : Hid (cls (bt s i) 3 bs) := by show cls _ _ _; unfold cls; omega
  have hii : (i : Int) < (s.size : Int) := by omega
  have HROW := hide h
  obtain ⟨b, off, rfl, -, hc⟩ := h.get hi
  rw [bz_get hi] at hc
  obtain ⟨c, hcc⟩ : ∃ c, bt s i = c := ⟨_, rfl⟩
  rw [hcc] at hc hl hh hbs
  have hli : ¬ (c : Int) < 128 := by omega
  have k1 : (192 : Int) ≤ (c : Int) := by omega
  have j1 : ¬ (c : Int) < 224 := by omega
  have k2 : (224 : Int) ≤ (c : Int) := by omega
  have j2 : (c : Int) < 240 := by omega
  have hbi : (c : Int) - 224 = (bs : Int) := by omega
  have HTL : Hid (∀ j W, Below w.heap.size w W → Calls Tryz.prog 178 #[.slice (some ⟨b, off, none⟩) s.size cap, .int .i64 (j : Nat)] W fun e w' => e = .returned (.bool (tl s j)) ∧ w' = W) := fun j W hb => l1Tail_any _ cap s j W (h.below (Nat.le_refl _) hb)
  clear h hcc hbs
  go_enter Tryz.func139, Tryz.ntmps139
  go_wp2_with fail
  go_loopw [8, 9] (fun v k wr => ∃ (x m : Nat), v = .int .i64 x ∧ k = .int .i64 m ∧ 1 ≤ m ∧ m ≤ 3 ∧ Hid (x = vP s i bs (m - 1)) ∧ Hid (∀ j, 1 ≤ j → j < m → tl s (i + j) = true) ∧ x ≤ 2097151 ∧ Hid (x < 16 * 64 ^ (m - 1)) ∧ wr = w) (fun _ k _ => 3 - (intOf k).toNat)
  case atStart => exact ⟨bs, 1, rfl, rfl, by omega, by omega, rfl, fun j h1 h2 => by omega, by omega, by show bs < 16 * 64 ^ 0; omega, rfl⟩
  case round =>
    obtain ⟨x, m, rfl, rfl, hm1, hm2, HX, HT, hxb, HXK, rfl⟩ := hrel
    by_cases hlt : m < 3
    case pos =>
      have hlti : (m : Int) < 3 := by omega
      have hw1 : IntKind.i64.wrap ((i : Int) + (m : Int)) = ((i + m : Nat) : Int) := by rw [IntKind.wrap_i64]; omega
      have hw2 : (i : Int) + (m : Int) = ((i + m : Nat) : Int) := by omega
      have HTJ := hide (unhide HTL (i + m) wr (Below.refl _ _))
      obtain ⟨q, hq⟩ : ∃ q, i + m = q := ⟨_, rfl⟩
      rw [hq] at hw1 hw2 HTJ
      have HQ := hide hq
      clear hq
      cases ht : tl s q with
      | false =>
        have HE := hide (rune_cut (unhide HCL) hm1 hlt (by rw [unhide HQ]; exact ht))
        rw [ht] at HTJ
        clear ht
        go_wp2_with fail
        refine (unhide HTJ).mono ?_
        rintro e w1 ⟨rfl, hw⟩
        obtain rfl := hw.symm
        go_wp2_with fail
        go_ret2
        exact ⟨by rw [unhide HE]; rfl, Below.refl _ _⟩
      | true =>
        have hb := tl_bd ht
        have hqi : (q : Int) < (s.size : Int) := by omega
        obtain ⟨_, _, e, -, hc2⟩ := (unhide HROW).get hb.1
        cases e
        rw [bz_get hb.1] at hc2
        obtain ⟨y, hy⟩ : ∃ y, bt s q = y := ⟨_, rfl⟩
        rw [hy] at hc2 hb
        rw [ht] at HTJ
        have HT2 : Hid (∀ j, 1 ≤ j → j < m + 1 → tl s (i + j) = true) := fun j h1 h2 => by
          by_cases hj : j = m
          · subst hj; rw [unhide HQ]; exact ht
          · exact unhide HT j h1 (by omega)
        have HX2 : Hid (x * 64 + (y - 128) = vP s i bs (m + 1 - 1)) := by
          show _ = _
          rw [show m + 1 - 1 = (m - 1) + 1 by omega]
          show _ = vP s i bs (m - 1) * 64 + (bt s (i + ((m - 1) + 1)) - 128)
          rw [← unhide HX, show i + (m - 1 + 1) = q by have := unhide HQ; omega, hy]
        have HK2 : Hid (x * 64 + (y - 128) < 16 * 64 ^ (m + 1 - 1)) := by
          have h1 := unhide HXK
          show _ < _
          rw [show m + 1 - 1 = (m - 1) + 1 by omega, Nat.pow_succ, ← Nat.mul_assoc]
          omega
        have hx2 : x * 64 + (y - 128) ≤ 2097151 := by
          have h1 := unhide HK2
          rcases (show m = 1 ∨ m = 2 by omega) with rfl | rfl <;> simp at h1 <;> omega
        obtain ⟨z, hz⟩ : ∃ z, x * 64 + (y - 128) = z := ⟨_, rfl⟩
        rw [hz] at HX2 hx2 HK2
        have hzi : (x : Int) * 64 + (y : Int) - 128 = (z : Int) := by omega
        clear ht hy hz
        go_wp2_with fail
        refine (unhide HTJ).mono ?_
        rintro e w1 ⟨rfl, hw⟩
        obtain rfl := hw.symm
        go_wp2_with fail
        go_roundw
        case rel => exact ⟨z, m + 1, by go_num, by go_num, by omega, by omega, HX2, HT2, hx2, HK2, by first | trivial | rfl⟩
        case measure => simp [intOf]; omega
    case neg =>
      obtain rfl : m = 3 := by omega
      obtain ⟨hvb, hfin⟩ := rune_fin (unhide HCL) (unhide HT)
      rw [← unhide HX] at hfin
      have HF := hide hfin
      have HB := hide (fun W => l1Bytes_any x hxb W)
      have HO := hide (fun W => l1RuneOk_any (x : Int) W)
      obtain ⟨L, hL⟩ : ∃ L, encZ (x : Int) = L := ⟨_, rfl⟩
      rw [hL] at HB hfin HF
      obtain ⟨o, ho⟩ : ∃ o, runeOk (x : Int) = o := ⟨_, rfl⟩
      rw [ho] at HO HF
      clear hfin hvb hL ho HX HT HCL
      by_cases hLL : L.length = 3
      case pos =>
        have hLi : ((L.length : Nat) : Int) = 3 := by omega
        have HLL := hide hLL
        clear hLL
        cases o with
        | true =>
          have HE : Hid (runeAt s i = (x, 3)) := by show _ = _; rw [unhide HF, if_pos ⟨unhide HLL, rfl⟩]
          go_wp2_with (first | (go_at_call 179; refine (unhide HB _).mono ?_; rintro e w1 ⟨g, rfl, hrow, hb1⟩; have HB1 := hide hb1; clear hrow hb1) | (go_at_call 180; refine (unhide HO _).mono ?_; rintro e w2 ⟨rfl, hw⟩; obtain rfl := hw.symm))
          go_ret2
          exact ⟨by rw [unhide HE]; rfl, unhide HB1⟩
        | false =>
          have HE : Hid (runeAt s i = (0, 0)) := by show _ = _; rw [unhide HF, if_neg (fun h => by cases h.2)]
          go_wp2_with (first | (go_at_call 179; refine (unhide HB _).mono ?_; rintro e w1 ⟨g, rfl, hrow, hb1⟩; have HB1 := hide hb1; clear hrow hb1) | (go_at_call 180; refine (unhide HO _).mono ?_; rintro e w2 ⟨rfl, hw⟩; obtain rfl := hw.symm))
          go_ret2
          exact ⟨by rw [unhide HE]; rfl, unhide HB1⟩
      case neg =>
        have hLi : ¬ ((L.length : Nat) : Int) = 3 := by omega
        have HE : Hid (runeAt s i = (0, 0)) := by show _ = _; rw [unhide HF, if_neg (fun h => hLL h.1)]
        clear hLL
        go_wp2_with (go_at_call 179; refine (unhide HB _).mono ?_; rintro e w1 ⟨g, rfl, hrow, hb1⟩; have HB1 := hide hb1; clear hrow hb1)
        go_ret2
        exact ⟨by rw [unhide HE]; rfl, unhide HB1⟩

set_option maxRecDepth 20000 in
set_option maxHeartbeats 4000000 in
theorem l1Rune_4 (a : Option Addr) (cap : Nat) (s : ByteArray) (i : Nat) (w : World) (h : RowB w a s.size (bz s)) (hi : i < s.size) (hs : s.size ≤ 17592186044416) (hl : 240 ≤ bt s i) (hh : bt s i < 248) :
    Calls Tryz.prog 139 #[.slice a s.size cap, .int .i64 (i : Nat)] w (GivesRune w s i) := by
  obtain ⟨bs, hbs⟩ : ∃ b, b = bt s i - 240 := ⟨_, rfl⟩
  have HCL : Hid (cls (bt s i) 4 bs) := by show cls _ _ _; unfold cls; omega
  have hii : (i : Int) < (s.size : Int) := by omega
  have HROW := hide h
  obtain ⟨b, off, rfl, -, hc⟩ := h.get hi
  rw [bz_get hi] at hc
  obtain ⟨c, hcc⟩ : ∃ c, bt s i = c := ⟨_, rfl⟩
  rw [hcc] at hc hl hh hbs
  have hli : ¬ (c : Int) < 128 := by omega
  have k1 : (192 : Int) ≤ (c : Int) := by omega
  have j1 : ¬ (c : Int) < 224 := by omega
  have k2 : (224 : Int) ≤ (c : Int) := by omega
  have j2 : ¬ (c : Int) < 240 := by omega
  have k3 : (240 : Int) ≤ (c : Int) := by omega
  have j3 : (c : Int) < 248 := by omega
  have hbi : (c : Int) - 240 = (bs : Int) := by omega
  have HTL : Hid (∀ j W, Below w.heap.size w W → Calls Tryz.prog 178 #[.slice (some ⟨b, off, none⟩) s.size cap, .int .i64 (j : Nat)] W fun e w' => e = .returned (.bool (tl s j)) ∧ w' = W) := fun j W hb => l1Tail_any _ cap s j W (h.below (Nat.le_refl _) hb)
  clear h hcc hbs
  go_enter Tryz.func139, Tryz.ntmps139
  go_wp2_with fail
  go_loopw [8, 9] (fun v k wr => ∃ (x m : Nat), v = .int .i64 x ∧ k = .int .i64 m ∧ 1 ≤ m ∧ m ≤ 4 ∧ Hid (x = vP s i bs (m - 1)) ∧ Hid (∀ j, 1 ≤ j → j < m → tl s (i + j) = true) ∧ x ≤ 2097151 ∧ Hid (x < 8 * 64 ^ (m - 1)) ∧ wr = w) (fun _ k _ => 4 - (intOf k).toNat)
  case atStart => exact ⟨bs, 1, rfl, rfl, by omega, by omega, rfl, fun j h1 h2 => by omega, by omega, by show bs < 8 * 64 ^ 0; omega, rfl⟩
  case round =>
    obtain ⟨x, m, rfl, rfl, hm1, hm2, HX, HT, hxb, HXK, rfl⟩ := hrel
    by_cases hlt : m < 4
    case pos =>
      have hlti : (m : Int) < 4 := by omega
      have hw1 : IntKind.i64.wrap ((i : Int) + (m : Int)) = ((i + m : Nat) : Int) := by rw [IntKind.wrap_i64]; omega
      have hw2 : (i : Int) + (m : Int) = ((i + m : Nat) : Int) := by omega
      have HTJ := hide (unhide HTL (i + m) wr (Below.refl _ _))
      obtain ⟨q, hq⟩ : ∃ q, i + m = q := ⟨_, rfl⟩
      rw [hq] at hw1 hw2 HTJ
      have HQ := hide hq
      clear hq
      cases ht : tl s q with
      | false =>
        have HE := hide (rune_cut (unhide HCL) hm1 hlt (by rw [unhide HQ]; exact ht))
        rw [ht] at HTJ
        clear ht
        go_wp2_with fail
        refine (unhide HTJ).mono ?_
        rintro e w1 ⟨rfl, hw⟩
        obtain rfl := hw.symm
        go_wp2_with fail
        go_ret2
        exact ⟨by rw [unhide HE]; rfl, Below.refl _ _⟩
      | true =>
        have hb := tl_bd ht
        have hqi : (q : Int) < (s.size : Int) := by omega
        obtain ⟨_, _, e, -, hc2⟩ := (unhide HROW).get hb.1
        cases e
        rw [bz_get hb.1] at hc2
        obtain ⟨y, hy⟩ : ∃ y, bt s q = y := ⟨_, rfl⟩
        rw [hy] at hc2 hb
        rw [ht] at HTJ
        have HT2 : Hid (∀ j, 1 ≤ j → j < m + 1 → tl s (i + j) = true) := fun j h1 h2 => by
          by_cases hj : j = m
          · subst hj; rw [unhide HQ]; exact ht
          · exact unhide HT j h1 (by omega)
        have HX2 : Hid (x * 64 + (y - 128) = vP s i bs (m + 1 - 1)) := by
          show _ = _
          rw [show m + 1 - 1 = (m - 1) + 1 by omega]
          show _ = vP s i bs (m - 1) * 64 + (bt s (i + ((m - 1) + 1)) - 128)
          rw [← unhide HX, show i + (m - 1 + 1) = q by have := unhide HQ; omega, hy]
        have HK2 : Hid (x * 64 + (y - 128) < 8 * 64 ^ (m + 1 - 1)) := by
          have h1 := unhide HXK
          show _ < _
          rw [show m + 1 - 1 = (m - 1) + 1 by omega, Nat.pow_succ, ← Nat.mul_assoc]
          omega
        have hx2 : x * 64 + (y - 128) ≤ 2097151 := by
          have h1 := unhide HK2
          rcases (show m = 1 ∨ m = 2 ∨ m = 3 by omega) with rfl | rfl | rfl <;> simp at h1 <;> omega
        obtain ⟨z, hz⟩ : ∃ z, x * 64 + (y - 128) = z := ⟨_, rfl⟩
        rw [hz] at HX2 hx2 HK2
        have hzi : (x : Int) * 64 + (y : Int) - 128 = (z : Int) := by omega
        clear ht hy hz
        go_wp2_with fail
        refine (unhide HTJ).mono ?_
        rintro e w1 ⟨rfl, hw⟩
        obtain rfl := hw.symm
        go_wp2_with fail
        go_roundw
        case rel => exact ⟨z, m + 1, by go_num, by go_num, by omega, by omega, HX2, HT2, hx2, HK2, by first | trivial | rfl⟩
        case measure => simp [intOf]; omega
    case neg =>
      obtain rfl : m = 4 := by omega
      obtain ⟨hvb, hfin⟩ := rune_fin (unhide HCL) (unhide HT)
      rw [← unhide HX] at hfin
      have HF := hide hfin
      have HB := hide (fun W => l1Bytes_any x hxb W)
      have HO := hide (fun W => l1RuneOk_any (x : Int) W)
      obtain ⟨L, hL⟩ : ∃ L, encZ (x : Int) = L := ⟨_, rfl⟩
      rw [hL] at HB hfin HF
      obtain ⟨o, ho⟩ : ∃ o, runeOk (x : Int) = o := ⟨_, rfl⟩
      rw [ho] at HO HF
      clear hfin hvb hL ho HX HT HCL
      by_cases hLL : L.length = 4
      case pos =>
        have hLi : ((L.length : Nat) : Int) = 4 := by omega
        have HLL := hide hLL
        clear hLL
        cases o with
        | true =>
          have HE : Hid (runeAt s i = (x, 4)) := by show _ = _; rw [unhide HF, if_pos ⟨unhide HLL, rfl⟩]
          go_wp2_with (first | (go_at_call 179; refine (unhide HB _).mono ?_; rintro e w1 ⟨g, rfl, hrow, hb1⟩; have HB1 := hide hb1; clear hrow hb1) | (go_at_call 180; refine (unhide HO _).mono ?_; rintro e w2 ⟨rfl, hw⟩; obtain rfl := hw.symm))
          go_ret2
          exact ⟨by rw [unhide HE]; rfl, unhide HB1⟩
        | false =>
          have HE : Hid (runeAt s i = (0, 0)) := by show _ = _; rw [unhide HF, if_neg (fun h => by cases h.2)]
          go_wp2_with (first | (go_at_call 179; refine (unhide HB _).mono ?_; rintro e w1 ⟨g, rfl, hrow, hb1⟩; have HB1 := hide hb1; clear hrow hb1) | (go_at_call 180; refine (unhide HO _).mono ?_; rintro e w2 ⟨rfl, hw⟩; obtain rfl := hw.symm))
          go_ret2
          exact ⟨by rw [unhide HE]; rfl, unhide HB1⟩
      case neg =>
        have hLi : ¬ ((L.length : Nat) : Int) = 4 := by omega
        have HE : Hid (runeAt s i = (0, 0)) := by show _ = _; rw [unhide HF, if_neg (fun h => hLL h.1)]
        clear hLL
        go_wp2_with (go_at_call 179; refine (unhide HB _).mono ?_; rintro e w1 ⟨g, rfl, hrow, hb1⟩; have HB1 := hide hb1; clear hrow hb1)
        go_ret2
        exact ⟨by rw [unhide HE]; rfl, unhide HB1⟩

set_option maxHeartbeats 1000000 in
/-- spec.l1Rune. -/
theorem l1Rune_any (a : Option Addr) (cap : Nat) (s : ByteArray) (i : Nat) (w : World) (h : RowB w a s.size (bz s)) (hi : i < s.size) (hs : s.size ≤ 17592186044416) :
    Calls Tryz.prog 139 #[.slice a s.size cap, .int .i64 (i : Nat)] w (GivesRune w s i) := by
  by_cases h1 : bt s i < 128
  · exact l1Rune_low a cap s i w h hi h1
  · by_cases h2 : bt s i < 192 ∨ 248 ≤ bt s i
    · exact l1Rune_none a cap s i w h hi (by omega) h2
    · by_cases h3 : bt s i < 224
      · exact l1Rune_2 a cap s i w h hi hs (by omega) h3
      · by_cases h4 : bt s i < 240
        · exact l1Rune_3 a cap s i w h hi hs (by omega) h4
        · exact l1Rune_4 a cap s i w h hi hs (by omega) (by omega)

end Go.Proofs.YtinndpnilmmmjaaGreatDoor
namespace Go.Proofs.YtinndpnilmmmjaaGreatDoor
open Go.RowKit

theorem run_slice_byte (b o n c p q m : Nat) (hp : p ≤ q) (hq : q ≤ c) (hm : q - p = m) (hpc : p < c) (W : World) : (Instr.slice 33 (.slice (some ⟨b, o, none⟩) n c) (some (.int .i64 (p : Nat))) (some (.int .i64 (q : Nat))) none).run Tryz.prog W = .ok (.slice (some ⟨b, o + p, none⟩) m (c - p)) W := by
  have h1 : (q : Int) ≤ (c : Int) := by omega
  have h2 : (p : Int) ≤ (q : Int) := by omega
  have h3 : ¬ c = p := by omega
  have h5 : (⟨b, o, none⟩ : Addr).add p = ⟨b, o + p, none⟩ := by by_cases h : p = 0 <;> simp [Addr.add, h]
  go_simp

theorem text_end {s : ByteArray} {F k : Nat} {out : List UInt8} (h : ¬ k < s.size) : textTok s F k out = bad 1 := by
  cases F with
  | zero => rfl
  | succ F => rw [textTok, if_neg h]

theorem text_bad {s : ByteArray} {F k : Nat} {out : List UInt8} (h : k < s.size) (hq : bt s k ≠ 39) (hb : (runeAt s k).2 = 0 ∨ bt s k = 10) : textTok s F k out = bad 1 := by
  cases F with
  | zero => rfl
  | succ F => rw [textTok, if_pos h, if_neg hq, if_pos hb]

theorem text_quote {s : ByteArray} {F k : Nat} {out : List UInt8} (hF : s.size - k < F) (h : k < s.size) (hq : bt s k = 39) (hb : quotes s k = false) : textTok s F k out = ⟨2, 0, ⟨out.toArray⟩, k + 1, 0⟩ := by
  cases F with
  | zero => omega
  | succ F => rw [textTok, if_pos h, if_pos hq, if_neg (by rw [hb]; decide)]

theorem text_twice {s : ByteArray} {F k : Nat} {out : List UInt8} (hF : s.size - k < F) (h : k < s.size) (hq : bt s k = 39) (hb : quotes s k = true) : textTok s F k out = textTok s (F - 1) (k + 2) (out ++ [39]) := by
  cases F with
  | zero => omega
  | succ F => rw [textTok, if_pos h, if_pos hq, if_pos hb]; rfl

theorem text_rune {s : ByteArray} {F k : Nat} {out : List UInt8} (hF : s.size - k < F) (h : k < s.size) (hq : bt s k ≠ 39) (hb : ¬ ((runeAt s k).2 = 0 ∨ bt s k = 10)) : textTok s F k out = textTok s (F - 1) (k + (runeAt s k).2) (out ++ (s.extract k (k + (runeAt s k).2)).data.toList) := by
  cases F with
  | zero => omega
  | succ F => rw [textTok, if_pos h, if_neg hq, if_neg hb]; rfl

set_option maxRecDepth 20000 in
set_option maxHeartbeats 8000000 in
theorem l1Text_any (s : ByteArray) (i : Nat) (w : World) (hi : i < s.size) (hs : s.size ≤ 1000000000) :
    Calls Tryz.prog 138 #[.string s, .int .i64 (i : Nat)] w (GivesGot w (textTok s (s.size - i) (i + 1) [])) := by
  obtain ⟨tgt, htgt⟩ : ∃ tgt, textTok s (s.size - i) (i + 1) [] = tgt := ⟨_, rfl⟩
  rw [htgt]
  have HTG := hide htgt
  obtain ⟨Q, hQ⟩ : ∃ Q, Q = w.alloc (.cells #[.int .i64 0, .int .i64 0, .string ⟨#[]⟩, .int .i64 0, .int .i64 0, .int .i64 0] 119) := ⟨_, rfl⟩
  have HQ := hide hQ
  have HBX : Hid (GBox Q w.heap.size (.int .i64 0) (.int .i64 0) (.string ⟨#[]⟩) (.int .i64 0) (.int .i64 0) (.int .i64 0)) := by rw [hQ]; exact GBox.new w _ _ _ _ _ _
  have HBQ : Hid (Below w.heap.size w Q) := by rw [hQ]; exact (Below.refl _ _).alloc (Nat.le_refl _) _
  have hQs : Q.heap.size = w.heap.size + 1 := by rw [hQ]; simp
  clear hQ htgt
  obtain ⟨cap, W1, hcv, hcap, hrow, hbW, hzW⟩ := conv_str Q s
  rw [unhide HQ] at hcv
  have HROW : Hid (RowB W1 (some ⟨Q.heap.size, 0, none⟩) s.size (bz s)) := hrow
  have HBX1 := hide ((unhide HBX).below (Nat.le_refl _) hbW)
  have HBW : Hid (Below w.heap.size w W1) := (unhide HBQ).trans (hbW.mono (by omega))
  have hzl : w.heap.size < W1.heap.size := by omega
  have HG0 := hide (GrowB.start W1)
  have HST : Hid (∀ k W, k ≤ s.size → Calls Tryz.prog 88 #[.string s, .int .i64 (k : Nat), .string ⟨#[39, 39]⟩] W fun e w' => e = .returned (.bool (quotes s k)) ∧ w' = W) := fun k W hk => by
    rw [← starts_quotes]
    exact l1Starts_any s ⟨#[39, 39]⟩ k hk (by omega) (by decide) W
  obtain ⟨bb, hbb⟩ : ∃ b, Q.heap.size = b := ⟨_, rfl⟩
  rw [unhide HQ] at hbb
  have hbb' : w.heap.size + 1 = bb := by rw [← hbb]; simp
  have HBB : Hid (Q.heap.size = bb) := by show _ = _; rw [hQs]; exact hbb'
  rw [unhide HBB] at HROW
  rw [hbb] at hcv
  have hbl : bb < W1.heap.size := by have := unhide HBB; omega
  clear hrow hbW HBX hbb hzW hQs HBQ
  obtain ⟨i0, hii, hz0, hz1, hz2⟩ := info_parts info_byte
  obtain ⟨e0, he0⟩ : ∃ e, i + 1 = e := ⟨_, rfl⟩
  have hi1 : (i : Int) + 1 = (e0 : Int) := by omega
  rw [he0] at HTG
  have hei : i < e0 := by omega
  have hes : e0 ≤ s.size := by omega
  have HSE : Hid (s.size - e0 < s.size - i) := by show _ < _; omega
  clear he0 hbb'
  go_enter Tryz.func138, Tryz.ntmps138
  go_wp2_with fail
  go_loopw [6, 7] (fun u e wr => ∃ (g cp : Nat) (out : List UInt8) (k F : Nat), u = .slice (some ⟨g, 0, none⟩) out.length cp ∧ e = .int .i64 (k : Nat) ∧ k ≤ s.size ∧ out.length ≤ k ∧ s.size - k < F ∧ Hid (textTok s F k out = tgt) ∧ Hid (GrowB W1 wr g cp out.length (uz out))) (fun _ e _ => s.size - (intOf e).toNat)
  case atStart => exact ⟨W1.heap.size, 0, [], e0, s.size - i, rfl, rfl, hes, by simp, unhide HSE, HTG, HG0⟩
  case round =>
    obtain ⟨g, cp, out, k, F, rfl, rfl, hk, hol, hF, HTK, HG⟩ := hrel
    clear hcv HTG HG0
    have HLOW := hide (unhide HG).low
    have HBXr := hide ((unhide HBX1).below (Nat.le_refl _) (unhide HLOW))
    have hzr := (unhide HLOW).size
    have hzlr : w.heap.size < wr.heap.size := by omega
    have HBr : Hid (Below w.heap.size w wr) := (unhide HBW).trans ((unhide HLOW).mono (by omega))
    obtain ⟨nn, hnn⟩ : ∃ n, out.length = n := ⟨_, rfl⟩
    rw [hnn] at hol HG
    rw [hnn]
    have HNN := hide hnn
    clear hnn
    by_cases hlt : k < s.size
    case neg =>
      have hlti : ¬ (k : Int) < (s.size : Int) := by omega
      have HE : Hid (tgt = bad 1) := by show _ = _; rw [← unhide HTK, text_end hlt]
      obtain ⟨q0, q1, q2, q3, q4, q5, qf⟩ := (unhide HBXr).all
      have f0 := qf 0
      have f1 := qf 1
      have f2 := qf 2
      have f3 := qf 3
      have f4 := qf 4
      have f5 := qf 5
      clear qf
      go_wp2_with fail
      refine bodyPost_ret (v := gotV (bad 1)) (by simp [results, Tryz.results138, go_sem, q0, q1, q2, q3, q4, q5, gotV, bad]) rfl ?_
      exact ⟨by rw [unhide HE], (((((((unhide HBr)).setCell (Nat.le_refl _) _).setCell (Nat.le_refl _) _).setCell (Nat.le_refl _) _).setCell (Nat.le_refl _) _).setCell (Nat.le_refl _) _).setCell (Nat.le_refl _) _⟩
    case pos =>
      have hlti : (k : Int) < (s.size : Int) := by omega
      have hix := fun W => run_idx hlt W
      have hy8 := bt_lt s k
      obtain ⟨y, hy⟩ : ∃ y, bt s k = y := ⟨_, rfl⟩
      have HY := hide hy
      rw [hy] at hix hy8
      clear hy
      by_cases h39 : y = 39
      case pos =>
        subst h39
        have HSQ := hide (fun W => unhide HST k W hk)
        cases hq : quotes s k with
        | true =>
          rw [hq] at HSQ
          have hk2 : k + 2 ≤ s.size := by have := of_decide_eq_true hq; omega
          have HNX : Hid (textTok s (F - 1) (k + 2) (out ++ [39]) = tgt) := by show _ = _; rw [← text_twice hF hlt (unhide HY) hq]; exact unhide HTK
          clear hq
          go_wp2_with (first | (go_at_call 88; refine (unhide HSQ _).mono ?_; rintro e w5 ⟨rfl, hw⟩; obtain rfl := hw.symm) | (at_builtin; refine wpList_append_lies _ rfl _ _ 33 rfl W1.heap.size 5 i0 (.int .u8 0) 1 1 Tryz.underlying33 hii hz0 hz1 hz2 rfl (by decide) _ _ _ rfl ((unhide HG).below ((Below.refl _ _).alloc (Nat.le_refl _) _)).own ⟨wr.heap.size, 0, none⟩ 1 1 ([39].map (Value.int .u8)) rfl rfl (RowB.new wr [39]).news (one_bytes _) (by omega) (by unfold maxLen; omega) (by omega) (by have := (unhide HG).low.size; simp; omega) (wr.heap.size + 1) (by simp) ?_; intro g' cap' w7 hown' hgrow hat hlt7; have HF7 := hide (GrowB.push ((unhide HG).below ((Below.refl _ _).alloc (Nat.le_refl _) _)) hown' hgrow); clear hgrow hat hown' hlt7))
          go_roundw
          case rel =>
            refine ⟨g', cap', out ++ [39], k + 2, F - 1, ?_, by go_num, by omega, by rw [List.length_append, unhide HNN]; simp; omega, by omega, HNX, ?_⟩
            · rw [List.length_append, unhide HNN]; rfl
            · show GrowB _ _ _ _ _ _
              rw [List.length_append, unhide HNN, uz_app]
              exact unhide HF7
          case measure => simp [intOf]; omega
        | false =>
          rw [hq] at HSQ
          have HE : Hid (tgt = ⟨2, 0, ⟨out.toArray⟩, k + 1, 0⟩) := by show _ = _; rw [← unhide HTK, text_quote hF hlt (unhide HY) hq]
          have hcb : ∀ c, (convert 33 9 (.slice (some ⟨g, 0, none⟩) nn c)).run Tryz.prog wr = .ok (.string ⟨out.toArray⟩) wr := fun c => by
            have := conv_back (cap := c) (w := wr) (b := g) (off := 0) (l := out) (by rw [unhide HNN]; exact (unhide HG).row)
            rwa [unhide HNN] at this
          clear hq
          obtain ⟨q0, q1, q2, q3, q4, q5, qf⟩ := (unhide HBXr).all
          have f0 := qf 0
          have f1 := qf 1
          have f2 := qf 2
          have f3 := qf 3
          have f4 := qf 4
          have f5 := qf 5
          clear qf
          go_wp2_with (go_at_call 88; refine (unhide HSQ _).mono ?_; rintro e w5 ⟨rfl, hw⟩; obtain rfl := hw.symm)
          refine bodyPost_ret (v := gotV ⟨2, 0, ⟨out.toArray⟩, k + 1, 0⟩) (by simp [results, Tryz.results138, go_sem, q0, q1, q2, q3, q4, q5, gotV]) rfl ?_
          exact ⟨by rw [unhide HE], (((((((unhide HBr)).setCell (Nat.le_refl _) _).setCell (Nat.le_refl _) _).setCell (Nat.le_refl _) _).setCell (Nat.le_refl _) _).setCell (Nat.le_refl _) _).setCell (Nat.le_refl _) _⟩
      case neg =>
        have h39i : ¬ (y : Int) = 39 := by omega
        have HR := hide (l1Rune_any (some ⟨bb, 0, none⟩) cap s k wr ((unhide HROW).below (Nat.le_refl _) (unhide HLOW)) hlt (by omega))
        have hre := rune_end hlt
        have hnq : bt s k ≠ 39 := by rw [unhide HY]; exact h39
        have HNQ := hide hnq
        clear hnq h39
        obtain ⟨rv, hrv⟩ : ∃ v, (runeAt s k).1 = v := ⟨_, rfl⟩
        obtain ⟨rn, hrn⟩ : ∃ n, (runeAt s k).2 = n := ⟨_, rfl⟩
        have HR2 : Hid (Calls Tryz.prog 139 #[.slice (some ⟨bb, 0, none⟩) s.size cap, .int .i64 (k : Nat)] wr fun e w' => e = .returned (.tuple #[.int .i64 (rv : Nat), .int .i64 (rn : Nat)]) ∧ Below wr.heap.size wr w') := by
          have := unhide HR
          unfold GivesRune at this
          rw [hrv, hrn] at this
          exact this
        rw [hrn] at hre
        have HRN := hide hrn
        clear HR hrv hrn
        by_cases hbad : rn = 0 ∨ y = 10
        case pos =>
          have HE : Hid (tgt = bad 1) := by show _ = _; rw [← unhide HTK, text_bad hlt (unhide HNQ) (by rw [unhide HRN, unhide HY]; exact hbad)]
          have hb2 : (rn = 0) ∨ (¬ rn = 0 ∧ y = 10) := by omega
          rcases hb2 with hb2 | ⟨hb2, hb3⟩
          · subst hb2
            go_wp2_with (go_at_call 139; refine (unhide HR2).mono ?_; rintro e w5 ⟨rfl, hb5⟩; obtain ⟨q0, q1, q2, q3, q4, q5, qf⟩ := ((unhide HBXr).below (Nat.le_refl _) hb5).all; have f0 := qf 0; have f1 := qf 1; have f2 := qf 2; have f3 := qf 3; have f4 := qf 4; have f5 := qf 5; have HB5 := hide ((unhide HBr).trans (hb5.mono (unhide HBr).size)); clear qf hb5)
            refine bodyPost_ret (v := gotV (bad 1)) (by simp [results, Tryz.results138, go_sem, q0, q1, q2, q3, q4, q5, gotV, bad]) rfl ?_
            exact ⟨by rw [unhide HE], (((((((unhide HB5)).setCell (Nat.le_refl _) _).setCell (Nat.le_refl _) _).setCell (Nat.le_refl _) _).setCell (Nat.le_refl _) _).setCell (Nat.le_refl _) _).setCell (Nat.le_refl _) _⟩
          · subst hb3
            have hb2i : ¬ (rn : Int) = 0 := by omega
            go_wp2_with (go_at_call 139; refine (unhide HR2).mono ?_; rintro e w5 ⟨rfl, hb5⟩; obtain ⟨q0, q1, q2, q3, q4, q5, qf⟩ := ((unhide HBXr).below (Nat.le_refl _) hb5).all; have f0 := qf 0; have f1 := qf 1; have f2 := qf 2; have f3 := qf 3; have f4 := qf 4; have f5 := qf 5; have HB5 := hide ((unhide HBr).trans (hb5.mono (unhide HBr).size)); clear qf hb5)
            refine bodyPost_ret (v := gotV (bad 1)) (by simp [results, Tryz.results138, go_sem, q0, q1, q2, q3, q4, q5, gotV, bad]) rfl ?_
            exact ⟨by rw [unhide HE], (((((((unhide HB5)).setCell (Nat.le_refl _) _).setCell (Nat.le_refl _) _).setCell (Nat.le_refl _) _).setCell (Nat.le_refl _) _).setCell (Nat.le_refl _) _).setCell (Nat.le_refl _) _⟩
        case neg =>
          have hn0 : ¬ (rn : Int) = 0 := by omega
          have hy10 : ((y : Int) == 10) = false := by simp; omega
          obtain ⟨pc, hpc⟩ : ∃ l, (s.extract k (k + rn)).data.toList = l := ⟨_, rfl⟩
          have HPL : Hid (pc.length = rn) := by show _ = _; rw [← hpc, sub_list, List.length_take, List.length_drop, ← Lib.size_eq]; omega
          have HNX : Hid (textTok s (F - 1) (k + rn) (out ++ pc) = tgt) := by
            show _ = _
            have h1 := text_rune (out := out) hF hlt (unhide HNQ) (by rw [unhide HRN, unhide HY]; exact hbad)
            rw [unhide HRN, hpc] at h1
            rw [← h1]; exact unhide HTK
          have HPR := hide (RowB.piece (n := rn) (i := k) (unhide HROW) hre.1)
          rw [hpc, Nat.zero_add] at HPR
          obtain ⟨ke, hke⟩ : ∃ e, k + rn = e := ⟨_, rfl⟩
          have hki : (k : Int) + (rn : Int) = (ke : Int) := by omega
          have hsl := run_slice_byte bb 0 s.size cap k ke rn (by omega) (by omega) (by omega) (by omega)
          rw [Nat.zero_add] at hsl
          rw [hke] at HNX
          have hke1 : k < ke := by omega
          have hke2 : ke ≤ s.size := by omega
          have HKE := hide hke
          have hrn4 : rn ≤ 4 := hre.2
          have hrn0 : 0 < rn := by omega
          clear hpc hbad hke hre
          go_wp2_with (first | (go_at_call 139; refine (unhide HR2).mono ?_; rintro e w5 ⟨rfl, hb5⟩; have HG5 := hide ((unhide HG).below hb5); have HP5 := hide ((unhide HPR).below (Nat.le_refl _) ((unhide HLOW).trans (hb5.mono hzr))); clear hb5) | (at_builtin; refine wpList_append_lies _ rfl _ _ 33 rfl W1.heap.size 5 i0 (.int .u8 0) 1 1 Tryz.underlying33 hii hz0 hz1 hz2 rfl (by decide) _ _ _ rfl (unhide HG5).own ⟨bb, k, none⟩ rn (cap - k) ((uz pc).map (Value.int .u8)) rfl (by rw [List.length_map, uz_len, unhide HPL]; omega) (unhide HP5).news (one_bytes _) (by omega) (by unfold maxLen; omega) (by omega) (by have := (unhide HG5).low.size; simp; omega) w5.heap.size (by simp) ?_; intro g' cap' w7 hown' hgrow hat hlt7; have HF7 := hide (GrowB.push (unhide HG5) hown' hgrow); clear hgrow hat hown' hlt7))
          go_roundw
          case rel =>
            refine ⟨g', cap', out ++ pc, ke, F - 1, ?_, by go_num, hke2, by rw [List.length_append, unhide HNN, unhide HPL]; have := unhide HKE; omega, by omega, HNX, ?_⟩
            · rw [List.length_append, unhide HNN, unhide HPL]
            · show GrowB _ _ _ _ _ _
              rw [List.length_append, unhide HNN, unhide HPL, uz_app]
              exact unhide HF7
          case measure => simp [intOf]; omega

end Go.Proofs.YtinndpnilmmmjaaGreatDoor
namespace Go.Proofs.YtinndpnilmmmjaaGreatDoor
open Go

section
variable {P : Program} {ops : Array Oper} {Q : Exit → Act → World → Prop} {md : Region.Mode} {S : World → Prop} {st : Nat}

/-- Whatever order is picked from here on, and S holds behind every operation but number st. -/
def wpAnyL (P : Program) (md : Region.Mode) (ops : Array Oper) (Q : Exit → Act → World → Prop) (S : World → Prop) (st : Nat) : Nat → Array Bool → Act → World → Prop
  | 0, listed, a, w => Region.ready md ops listed = [] ∧ Q .normal a w
  | fuel + 1, listed, a, w =>
    (Region.ready md ops listed = [] → Q .normal a w) ∧
    ∀ i ∈ Region.ready md ops listed, wpOp P ops Q i (fun a' w' => (i ≠ st → S w') ∧ wpAnyL P md ops Q S st fuel (listed.setIfInBounds i true) a' w') a w

theorem wpAny_of_L : ∀ (fuel : Nat) (listed : Array Bool) (a : Act) (w : World), wpAnyL P md ops Q S st fuel listed a w → wpAny P md ops Q fuel listed a w
  | 0, _, _, _, h => h
  | fuel + 1, _, _, _, h => ⟨h.1, fun i hi => wpOp_mono (fun a' w' h' => wpAny_of_L fuel _ a' w' h'.2) (h.2 i hi)⟩

/-- Operation st waits for operation i. -/
def waitsFor (md : Region.Mode) (ops : Array Oper) (st i : Nat) : Bool := ((ops[st]?).map (·.after.any fun e => Region.binds md e && e.on == i)).getD false

theorem waits_not {i : Nat} {listed : Array Bool} (hw : waitsFor md ops st i = true) (hi : listed.getD i true = false) : st ∉ Region.ready md ops listed := by
  intro hst
  obtain ⟨_, o, ho, hall⟩ := mem_ready.1 hst
  unfold waitsFor at hw
  rw [ho] at hw
  simp only [Option.map_some, Option.getD_some, Array.any_eq_true'] at hw
  obtain ⟨e, he, hb⟩ := hw
  simp only [Bool.and_eq_true, beq_iff_eq] at hb
  have h1 := hall e he hb.1
  rw [hb.2] at h1
  rcases Nat.lt_or_ge i listed.size with h' | h'
  · simp [h'] at hi h1; rw [hi] at h1; cases h1
  · simp [Array.getElem?_eq_none h'] at h1

theorem wpAnyL_first {i : Nat} {oi : Oper} {v : Value} (hi : ops[i]? = some oi) (hsel : ∀ (j : Nat) (o : Oper) cs b, ops[j]? = some o → o.op ≠ .select cs b)
    (hQ : ∀ c a w, Q (.panic c) (a.put oi.dst v) w → Q (.panic c) a w) (hw : waitsFor md ops st i = true) :
    ∀ (fuel : Nat) (listed : Array Bool) (a : Act) (w : World),
      (∀ j oj, ops[j]? = some oj → j ≠ i → listed.getD j true = false → (∀ e ∈ oj.after, Region.binds md e = true → e.on ≠ i) → oi.apart ops oj = true) →
      i ∈ Region.ready md ops listed → YieldsIf P ops S oi v a → S w →
      wpAnyL P md ops Q S st fuel (listed.setIfInBounds i true) (a.put oi.dst v) w → wpAnyL P md ops Q S st (fuel + 1) listed a w := by
  intro fuel
  induction fuel with
  | zero =>
    intro listed a w _ hr hy hS H
    refine ⟨fun h => (by rw [h] at hr; cases hr), fun j hj => ?_⟩
    by_cases hji : j = i
    · subst hji; exact hy.wpOp hi hS ⟨fun _ => hS, H⟩
    · have := ready_mono hj hji
      rw [H.1] at this
      cases this
  | succ fuel ih =>
    intro listed a w hfree hr hy hS H
    refine ⟨fun h => (by rw [h] at hr; cases hr), fun j hj => ?_⟩
    by_cases hji : j = i
    · subst hji; exact hy.wpOp hi hS ⟨fun _ => hS, H⟩
    · have h1 := H.2 j (ready_mono hj hji)
      have hjst : j ≠ st := fun e => waits_not hw (mem_ready.1 hr).1 (e ▸ hj)
      obtain ⟨hjun, oj, hoj, hall⟩ := mem_ready.1 hj
      have hnot : ∀ e ∈ oj.after, Region.binds md e = true → e.on ≠ i := fun e he hb heq => by
        have h1 := hall e he hb
        have h0 := (mem_ready.1 hr).1
        rw [heq] at h1
        rcases Nat.lt_or_ge i listed.size with h' | h'
        · simp [h'] at h0 h1; rw [h0] at h1; cases h1
        · simp [Array.getElem?_eq_none h'] at h1
      have h2 := wpOp_putIf hoj (hfree j oj hoj hji hjun hnot) (fun cs b => hsel i oi cs b hi) (fun cs b => hsel j oj cs b hoj) hQ hy h1
      have hfree' : ∀ k ok, ops[k]? = some ok → k ≠ i → (listed.setIfInBounds j true).getD k true = false →
          (∀ e ∈ ok.after, Region.binds md e = true → e.on ≠ i) → oi.apart ops ok = true := fun k ok hk hki hun hno => by
        refine hfree k ok hk hki ?_ hno
        by_cases hjk : j = k
        · subst hjk; exact hjun
        · rw [getD_set_ne true hjk] at hun; exact hun
      refine wpOp_mono (fun a' w' h3 => ⟨h3.2.1, ih (listed.setIfInBounds j true) a' w' hfree' (ready_mono hr (Ne.symm hji)) h3.1 (h3.2.1 hjst) ?_⟩) h2
      rw [Array.setIfInBounds_comm _ _ hji]
      exact h3.2.2

/-- Take number i first. -/
theorem wpAnyL_take {i : Nat} {oi : Oper} {v : Value} {fuel : Nat} {listed : Array Bool} {a : Act} {w : World} (hi : ops[i]? = some oi)
    (hs : Region.noSelect ops = true) (hf : Region.free md ops listed i = true) (hr : (Region.ready md ops listed).contains i = true) (hw : waitsFor md ops st i = true)
    (hQ : ∀ c a w, Q (.panic c) (a.put oi.dst v) w → Q (.panic c) a w) (hy : YieldsIf P ops S oi v a) (hS : S w)
    (h : wpAnyL P md ops Q S st fuel (listed.setIfInBounds i true) (a.put oi.dst v) w) : wpAnyL P md ops Q S st (fuel + 1) listed a w :=
  wpAnyL_first hi (Region.noSelect_spec hs) hQ hw fuel listed a w (Region.free_spec hi hf) (by simpa using hr) hy hS h

/-- Take number i first, its value into slot d. -/
theorem wpAnyL_put (i d : Nat) (v : Value) {oi : Oper} {fuel : Nat} {listed : Array Bool} {a : Act} {w : World} (hi : ops[i]? = some oi) (hd : oi.dst = some d)
    (hs : Region.noSelect ops = true) (hf : Region.free md ops listed i = true) (hr : (Region.ready md ops listed).contains i = true) (hw : waitsFor md ops st i = true)
    (hQ : ∀ c a (d : Nat) v w, Q (.panic c) (a.put (some d) v) w → Q (.panic c) a w) (hg : Region.wanted oi (yielded ops a.tmps) = true) (hy : ∀ w, S w → (execOp a.eval oi).run P w = .ok (.value v) w) (hS : S w)
    (h : wpAnyL P md ops Q S st fuel (listed.setIfInBounds i true) (a.put (some d) v) w) : wpAnyL P md ops Q S st (fuel + 1) listed a w :=
  wpAnyL_take hi hs hf hr hw (fun c a w h => by rw [hd] at h; exact hQ c a d v w h) (Or.inl ⟨hg, hy⟩) hS (by rw [hd]; exact h)

/-- One alone may come up. -/
theorem wpAnyL_one {i : Nat} {fuel : Nat} {listed : Array Bool} {a : Act} {w : World} (hr : Region.ready md ops listed = [i])
    (h : wpOp P ops Q i (fun a' w' => (i ≠ st → S w') ∧ wpAnyL P md ops Q S st fuel (listed.setIfInBounds i true) a' w') a w) : wpAnyL P md ops Q S st (fuel + 1) listed a w :=
  ⟨fun h0 => (by rw [hr] at h0; cases h0), fun j hj => (by rw [hr] at hj; simp at hj; subst hj; exact h)⟩

theorem wpAnyL_done {listed : Array Bool} {a : Act} {w : World} (hr : Region.ready md ops listed = []) (h : Q .normal a w) : ∀ fuel, wpAnyL P md ops Q S st fuel listed a w
  | 0 => ⟨hr, h⟩
  | _ + 1 => ⟨fun _ => h, by rw [hr]; simp⟩

theorem wp_region_L {id : Nat} {a : Act} {w : World} (S : World → Prop) (st : Nat) (hm : P.follows .mixedOrders = true)
    (h : wpAnyL P .any ops Q S st ops.size (Array.replicate ops.size false) a { w with drawn := w.drawn + 1 }) : (Code.region id ops true).wp P Q a w :=
  wp_region_any hm (wpAny_of_L _ _ _ _ h)

theorem op_wp {K : Act → World → Prop} {a : Act} {w : World} {i : Nat} {o : Oper} (hi : ops[i]? = some o) (hg : Region.wanted o (yielded ops a.tmps) = true) (h : o.wp P a w K Q) : wpOp P ops Q i K a w := by
  unfold wpOp
  rw [hi]
  show if Region.wanted o (yielded ops a.tmps) = true then _ else _
  rw [if_pos hg]
  exact .inl h

theorem eval_ne {a : Act} {d e : Nat} {v : Value} (h : d ≠ e) : (a.put (some d) v).eval (.tmp e) = a.eval (.tmp e) :=
  Act.eval_put (dst := some d) (x := .tmp e) (by simp; exact fun hy => h hy.symm)

theorem eval_eq {a : Act} {d : Nat} {v : Value} (h : d < a.tmps.size) : (a.put (some d) v).eval (.tmp d) = v := by
  simp [Act.eval, Act.put, h]

theorem put_size {a : Act} {d : Nat} {v : Value} : (a.put (some d) v).tmps.size = a.tmps.size := by simp [Act.put]
end

end Go.Proofs.YtinndpnilmmmjaaGreatDoor
namespace Go.Proofs.YtinndpnilmmmjaaGreatDoor
open Go.RowKit

/-- Bytes as a string. -/
def bstr (l : List Int) : ByteArray := ⟨(l.map fun x => x.toNat.toUInt8).toArray⟩

theorem bstr_nil : bstr [] = ⟨#[]⟩ := rfl
theorem bstr_app (l m : List Int) : bstr l ++ bstr m = bstr (l ++ m) := by
  unfold bstr
  rw [List.map_append]
  apply ByteArray.ext
  simp

theorem bstr_size (l : List Int) : (bstr l).size = l.length := by simp [bstr, ByteArray.size]

/-- 'string([]byte{a})' of a byte laid anew. -/
theorem conv_one (w : World) (a : Nat) (ha : a < 256) : (convert 33 9 (.slice (some ⟨w.heap.size, 0, none⟩) 1 1)).run Tryz.prog (w.alloc (.cells #[.int .u8 (a : Nat)] 5)) = .ok (.string (bstr [(a : Int)])) (w.alloc (.cells #[.int .u8 (a : Nat)] 5)) := by
  have h := run_convert_bytes_back (P := Tryz.prog) (w.alloc (.cells #[.int .u8 (a : Nat)] 5)) 33 9 5 ⟨w.heap.size, 0, none⟩ 1 [a.toUInt8] Tryz.underlying33 Tryz.underlying5 Tryz.underlying9 (fun j hj => by
    have hj0 : j = 0 := by simp at hj; exact hj
    subst hj0
    have hr := RowB.new w [(a : Int)]
    rcases hr.at_ with h0 | ⟨b, off, e, _, hc⟩
    · simp at h0
    · cases e
      have h1 := hc 0 (by simp)
      have h2 : (⟨w.heap.size, 0, none⟩ : Addr).add 0 = ⟨w.heap.size, 0 + 0, none⟩ := by simp [Addr.add]
      rw [h2]
      refine Eq.trans h1 ?_
      simp [Nat.mod_eq_of_lt ha])
  exact h

end Go.Proofs.YtinndpnilmmmjaaGreatDoor
namespace Go.Proofs.YtinndpnilmmmjaaGreatDoor
open Go

theorem bstr_uz (l : List UInt8) : bstr (uz l) = ⟨l.toArray⟩ := by
  unfold bstr uz
  congr 2
  rw [List.map_map]
  conv => rhs; rw [← List.map_id l]
  refine List.map_congr_left fun b _ => ?_
  show Nat.toUInt8 (Int.toNat (b.toNat : Int)) = b
  rw [Int.toNat_natCast]
  exact UInt8.ofNat_toNat

theorem bstr_inj {l m : List Int} (hl : ∀ x ∈ l, 0 ≤ x ∧ x < 256) (hm : ∀ x ∈ m, 0 ≤ x ∧ x < 256) (h : bstr l = bstr m) : l = m := by
  have back : ∀ {l : List Int}, (∀ x ∈ l, 0 ≤ x ∧ x < 256) → uz (bstr l).data.toList = l := fun {l} hl => by
    unfold uz bstr
    rw [List.map_map]
    conv => rhs; rw [← List.map_id l]
    refine List.map_congr_left fun x hx => ?_
    have := hl x hx
    show (((x.toNat.toUInt8).toNat : Nat) : Int) = x
    rw [show x.toNat.toUInt8 = UInt8.ofNat x.toNat from rfl, UInt8.toNat_ofNat_of_lt' (by simp [UInt8.size]; omega)]
    omega
  rw [← back hl, ← back hm, h]

/-- The bytes of a character are those of its number. -/
theorem rune_bytes {s : ByteArray} {i : Nat} (h : i < s.size) (hn : 0 < (runeAt s i).2) : uz (s.extract i (i + (runeAt s i).2)).data.toList = encZ ((runeAt s i).1 : Nat) := by
  have hb := bt_lt s i
  have hl : i < s.data.toList.length := by rw [← Lib.size_eq]; exact h
  have e0 := bt_data h
  rw [sub_list]
  by_cases h1 : bt s i < 128
  · rw [rune_ascii h1]
    simp only
    rw [show i + 1 - i = 0 + 1 by omega, take_cons hl]
    simp only [uz, List.take_zero, List.map_cons, List.map_nil, ← e0]
    unfold encZ
    rw [if_pos (by omega)]
  · by_cases h2 : bt s i < 192 ∨ 248 ≤ bt s i
    · rw [rune_0 (by omega) h2] at hn; simp at hn
    · by_cases h3 : bt s i < 224
      · have hr := rune_2 (by omega) h3
        by_cases hc : tl s (i + 1) = true ∧ 128 ≤ v2 s i
        · rw [if_pos hc] at hr
          have t1 := tl_bd hc.1
          have hl1 : i + 1 < s.data.toList.length := by rw [← Lib.size_eq]; exact t1.1
          have e1 := bt_data t1.1
          rw [hr]
          simp only
          rw [show i + 2 - i = 0 + 1 + 1 by omega, take_cons hl, take_cons hl1]
          simp only [uz, List.take_zero, List.map_cons, List.map_nil, ← e0, ← e1]
          have hv : v2 s i = bt s i % 32 * 64 + bt s (i + 1) % 64 := rfl
          have hlt : v2 s i < 2048 := by omega
          unfold encZ
          rw [if_neg (by omega), if_pos (by omega)]
          congr 1
          · omega
          · congr 1; omega
        · rw [if_neg hc] at hr; rw [hr] at hn; simp at hn
      · by_cases h4 : bt s i < 240
        · have hr := rune_3 (by omega) h4
          by_cases hc : tl s (i + 1) = true ∧ tl s (i + 2) = true ∧ 2048 ≤ v3 s i ∧ Utf8.valid (v3 s i : Nat) = true
          · rw [if_pos hc] at hr
            have t1 := tl_bd hc.1
            have t2 := tl_bd hc.2.1
            have hl1 : i + 1 < s.data.toList.length := by rw [← Lib.size_eq]; exact t1.1
            have hl2 : i + 1 + 1 < s.data.toList.length := by rw [← Lib.size_eq]; exact t2.1
            have e1 := bt_data t1.1
            have e2 := bt_data t2.1
            rw [hr]
            simp only
            rw [show i + 3 - i = 0 + 1 + 1 + 1 by omega, take_cons hl, take_cons hl1, take_cons hl2]
            simp only [uz, List.take_zero, List.map_cons, List.map_nil, ← e0, ← e1, show i + 1 + 1 = i + 2 from rfl, ← e2]
            have hv : v3 s i = bt s i % 16 * 4096 + bt s (i + 1) % 64 * 64 + bt s (i + 2) % 64 := rfl
            have hlt : v3 s i < 65536 := by omega
            have hge := hc.2.2.1
            unfold encZ
            rw [if_neg (by omega), if_neg (by omega), if_pos (by omega)]
            congr 1
            · omega
            · congr 1
              · omega
              · congr 1; omega
          · rw [if_neg hc] at hr; rw [hr] at hn; simp at hn
        · have hr := rune_4 (by omega) (show bt s i < 248 by omega)
          by_cases hc : tl s (i + 1) = true ∧ tl s (i + 2) = true ∧ tl s (i + 3) = true ∧ 65536 ≤ v4 s i ∧ Utf8.valid (v4 s i : Nat) = true
          · rw [if_pos hc] at hr
            have t1 := tl_bd hc.1
            have t2 := tl_bd hc.2.1
            have t3 := tl_bd hc.2.2.1
            have hl1 : i + 1 < s.data.toList.length := by rw [← Lib.size_eq]; exact t1.1
            have hl2 : i + 1 + 1 < s.data.toList.length := by rw [← Lib.size_eq]; exact t2.1
            have hl3 : i + 1 + 1 + 1 < s.data.toList.length := by rw [← Lib.size_eq]; exact t3.1
            have e1 := bt_data t1.1
            have e2 := bt_data t2.1
            have e3 := bt_data t3.1
            rw [hr]
            simp only
            rw [show i + 4 - i = 0 + 1 + 1 + 1 + 1 by omega, take_cons hl, take_cons hl1, take_cons hl2, take_cons hl3]
            simp only [uz, List.take_zero, List.map_cons, List.map_nil, ← e0, ← e1, show i + 1 + 1 = i + 2 from rfl, ← e2, show i + 2 + 1 = i + 3 from rfl, ← e3]
            have hv : v4 s i = bt s i % 8 * 262144 + bt s (i + 1) % 64 * 4096 + bt s (i + 2) % 64 * 64 + bt s (i + 3) % 64 := rfl
            have hge := hc.2.2.2.1
            unfold encZ
            rw [if_neg (by omega), if_neg (by omega), if_neg (by omega)]
            congr 1
            · omega
            · congr 1
              · omega
              · congr 1
                · omega
                · congr 1; omega
          · rw [if_neg hc] at hr; rw [hr] at hn; simp at hn

theorem encZ_byte {v : Nat} (h : v ≤ 2097151) : ∀ x ∈ encZ (v : Int), 0 ≤ x ∧ x < 256 := by
  unfold encZ
  intro x hx
  repeat' split at hx
  all_goals simp at hx
  all_goals omega

theorem encZ_inj {v u : Nat} (hv : v ≤ 2097151) (hu : u ≤ 2097151) (h : encZ (v : Int) = encZ (u : Int)) : v = u := by
  unfold encZ at h
  repeat' split at h
  all_goals simp at h
  all_goals omega

end Go.Proofs.YtinndpnilmmmjaaGreatDoor
namespace Go.Proofs.YtinndpnilmmmjaaGreatDoor
open Go.RowKit

/-- All signs, with a blank behind each. -/
def signS : ByteArray := ⟨(signCs.flatMap fun c => ((encZ (c : Nat)).map fun x => x.toNat.toUInt8) ++ [32]).toArray⟩

set_option maxRecDepth 100000 in
theorem l1Signs_any (w : World) : Calls Tryz.prog 142 #[] w fun e w' => e = .returned (.string signS) ∧ w' = w := by
  have hs : ∀ x : ByteArray, x = signS → Ending.returned (.string x) = .returned (.string signS) := fun x h => by rw [h]
  go_enter Tryz.func142, Tryz.ntmps142
  go_wp2
  go_ret
  exact ⟨hs _ (by kernel_rfl), rfl⟩

/-- The pieces that blanks end, behind k bytes: where the next begins, and those that are there. -/
def pcN (s : ByteArray) : Nat → Nat × List ByteArray
  | 0 => (0, [])
  | k + 1 => if bt s k = 32 then (k + 1, (pcN s k).2 ++ [s.extract (pcN s k).1 k]) else pcN s k

theorem pcN_le (s : ByteArray) : ∀ k, (pcN s k).1 ≤ k ∧ (pcN s k).2.length ≤ k
  | 0 => by simp [pcN]
  | k + 1 => by
    have ih := pcN_le s k
    rw [pcN]
    split
    · simp; omega
    · omega

/-- The slice (a, n, _) reads as these texts. -/
structure RowS (w : World) (a : Option Addr) (n : Nat) (ps : List ByteArray) : Prop where
  len : ps.length = n
  at_ : n = 0 ∨ ∃ b off, a = some ⟨b, off, none⟩ ∧ b < w.heap.size ∧ ∀ i, i < n → w.cell? ⟨b, off + i, none⟩ = some (.string (ps.getD i ⟨#[]⟩))

theorem RowS.below {w w' : World} {a : Option Addr} {n : Nat} {ps : List ByteArray} {B : Nat} (h : RowS w a n ps) (hB : w.heap.size ≤ B) (hb : Below B w w') : RowS w' a n ps := by
  refine ⟨h.len, ?_⟩
  rcases h.at_ with h0 | ⟨b, off, rfl, hlt, hc⟩
  · exact .inl h0
  · exact .inr ⟨b, off, rfl, Nat.lt_of_lt_of_le hlt hb.size, fun i hi => (hb.cell (p := ⟨b, off + i, none⟩) (Nat.lt_of_lt_of_le hlt hB)).trans (hc i hi)⟩

theorem info_str : (Tryz.prog.info? 9).map (fun i => (i.zero, i.size, i.bytes)) = some (some (.string ⟨#[]⟩), 1, 16) := by kernel_rfl

/-- An own list of texts that grows, made in the world Q. -/
structure GrowS (Q w : World) (g cap j : Nat) (ps : List ByteArray) : Prop where
  own : w.ownsRow Q.heap.size 9 1 (.slice (some ⟨g, 0, none⟩) j cap) j (ps.map Value.string)
  low : Below Q.heap.size Q w

theorem GrowS.start (Q : World) : GrowS Q (Q.alloc (.cells #[] 9)) Q.heap.size 0 0 [] := by
  refine ⟨⟨by simp, .inr ⟨Q.heap.size, 0, #[], rfl, Nat.le_refl _, ?_, by simp, by unfold maxLen; omega, by simp, by simp⟩⟩, (Below.refl _ _).alloc (Nat.le_refl _) _⟩
  show (Q.heap.push _)[Q.heap.size]? = _
  simp

theorem GrowS.below {Q w w' : World} {g cap j : Nat} {ps : List ByteArray} (h : GrowS Q w g cap j ps) (hb : Below w.heap.size w w') : GrowS Q w' g cap j ps := ⟨ownsB_below h.own (Nat.le_refl _) hb, h.low.trans (hb.mono h.low.size)⟩

theorem GrowS.len {Q w : World} {g cap j : Nat} {ps : List ByteArray} (h : GrowS Q w g cap j ps) : ps.length = j := by simpa using h.own.1

theorem GrowS.ge {Q w : World} {g cap j : Nat} {ps : List ByteArray} (h : GrowS Q w g cap j ps) : Q.heap.size ≤ g := by
  rcases h.own.2 with ⟨h', _⟩ | ⟨g', cap', cur, h', hb, _⟩
  · simp at h'
  · cases h'; exact hb

theorem GrowS.push {Q w w1 : World} {g cap j m g' cap' : Nat} {ps qs : List ByteArray} (h : GrowS Q w g cap j ps)
    (hown : w1.ownsRow Q.heap.size 9 1 (.slice (some ⟨g', 0, none⟩) (j + m) cap') (j + m) (ps.map Value.string ++ qs.map Value.string)) (hg : w.grownBy w1 (Value.ownBlock (.slice (some ⟨g, 0, none⟩) j cap))) :
    GrowS Q w1 g' cap' (j + m) (ps ++ qs) := by
  have hge := h.ge
  refine ⟨by rw [List.map_append]; exact hown, ⟨hg.os.trans h.low.os, hg.tape.trans h.low.tape, hg.output.trans h.low.output, Nat.le_trans h.low.size hg.size, fun k hk => (hg.block k (by have := h.low.size; omega) (fun e => by have := (Option.some.inj e : k = g); omega)).trans (h.low.block k hk)⟩⟩

theorem GrowS.row {Q w : World} {g cap j : Nat} {ps : List ByteArray} (h : GrowS Q w g cap j ps) : RowS w (some ⟨g, 0, none⟩) j ps := by
  refine ⟨h.len, ?_⟩
  rcases h.own.2 with ⟨h', _⟩ | ⟨g', cap', cur, h', _, hg, _, _, hcs, ht⟩
  · simp at h'
  · cases h'
    refine .inr ⟨g, 0, rfl, lt_of_block hg, fun i hi => ?_⟩
    have hl := h.len
    have e : cur.toList[i]? = some (.string (ps.getD i ⟨#[]⟩)) := by
      have : (cur.toList.take (j * 1))[i]? = (ps.map Value.string)[i]? := by rw [ht]
      rw [List.getElem?_take, if_pos (by omega)] at this
      rw [this]
      simp [hl, hi]
    simpa [World.cell?, hg] using e

theorem newStr (w : World) (x : ByteArray) : ∀ (j : Nat) u, ([x].map Value.string)[j]? = some u → (w.alloc (.cells #[.string x] 9)).cell? ((⟨w.heap.size, 0, none⟩ : Addr).add j) = some u := by
  intro j u hj
  have hj0 : j = 0 := by
    have := (List.getElem?_eq_some_iff.1 hj).1
    simpa using this
  subst hj0
  simp at hj
  subst hj
  have h2 : (⟨w.heap.size, 0, none⟩ : Addr).add 0 = ⟨w.heap.size, 0, none⟩ := by simp [Addr.add]
  rw [h2]
  have hb : (w.alloc (.cells #[.string x] 9)).heap[w.heap.size]? = some (.cells #[.string x] 9) := by
    show (w.heap.push _)[w.heap.size]? = _
    simp
  obtain ⟨W, hW⟩ : ∃ W, w.alloc (.cells #[.string x] 9) = W := ⟨_, rfl⟩
  rw [hW] at hb ⊢
  simp [World.cell?, hb]

theorem one_strs (ps : List ByteArray) : ∀ u ∈ ps.map Value.string, u.oneCell' = true := by
  intro u hu
  obtain ⟨x, _, rfl⟩ := List.mem_map.1 hu
  rfl

theorem run_sub {s : ByteArray} {p q : Nat} (h1 : p ≤ q) (h2 : q ≤ s.size) (W : World) : (Instr.slice 9 (.string s) (some (.int .i64 (p : Nat))) (some (.int .i64 (q : Nat))) none).run Tryz.prog W = .ok (.string (s.extract p q)) W := by
  have h3 : (q : Int) ≤ (s.size : Int) := by omega
  have h4 : (p : Int) ≤ (q : Int) := by omega
  go_simp

/-- What l1List gives. -/
def GivesStrs (w : World) (ps : List ByteArray) (e : Ending) (w' : World) : Prop := ∃ g cap, e = .returned (.slice (some ⟨g, 0, none⟩) ps.length cap) ∧ RowS w' (some ⟨g, 0, none⟩) ps.length ps ∧ Below w.heap.size w w'

set_option maxRecDepth 20000 in
set_option maxHeartbeats 2000000 in
theorem l1List_any (s : ByteArray) (w : World) (hs : s.size ≤ 100000) :
    Calls Tryz.prog 141 #[.string s] w (GivesStrs w (pcN s s.size).2) := by
  obtain ⟨i0, hi, hz0, hz1, hz2⟩ := info_parts info_str
  have HG0 := hide (GrowS.start w)
  go_enter Tryz.func141, Tryz.ntmps141
  go_wp2_with fail
  go_loopw [3, 4, 5] (fun u fr i wr => ∃ (k g cp : Nat), u = .slice (some ⟨g, 0, none⟩) (pcN s k).2.length cp ∧ fr = .int .i64 ((pcN s k).1 : Nat) ∧ i = .int .i64 (k : Nat) ∧ k ≤ s.size ∧ Hid (GrowS w wr g cp (pcN s k).2.length (pcN s k).2)) (fun _ _ i _ => s.size - (intOf i).toNat)
  case atStart => exact ⟨0, w.heap.size, 0, rfl, rfl, rfl, Nat.zero_le _, HG0⟩
  case round =>
    obtain ⟨k, g, cp, rfl, rfl, rfl, hk, HG⟩ := hrel
    clear HG0
    have hpl := pcN_le s k
    obtain ⟨ps, hps⟩ : ∃ p, (pcN s k).2 = p := ⟨_, rfl⟩
    obtain ⟨fr, hfr⟩ : ∃ p, (pcN s k).1 = p := ⟨_, rfl⟩
    rw [hps, hfr] at hpl
    rw [hps] at HG ⊢
    rw [hfr]
    have HPS := hide hps
    have HFR := hide hfr
    have hnl : ∃ n, ps.length = n := ⟨_, rfl⟩
    obtain ⟨n, hn⟩ := hnl
    rw [hn] at hpl HG ⊢
    have HN := hide hn
    clear hps hfr hn
    by_cases hlt : k < s.size
    · have hlti : (k : Int) < (s.size : Int) := by omega
      have hix := fun W => run_idx hlt W
      obtain ⟨y, hy⟩ : ∃ y, bt s k = y := ⟨_, rfl⟩
      rw [hy] at hix
      have HY := hide hy
      clear hy
      by_cases h32 : y = 32
      · subst h32
        have HP : Hid (pcN s (k + 1) = (k + 1, ps ++ [s.extract fr k])) := by show _ = _; rw [pcN, if_pos (unhide HY), unhide HPS, unhide HFR]
        have hsl := fun W => run_sub (s := s) (p := fr) (q := k) hpl.1 hk W
        obtain ⟨x, hx⟩ : ∃ x, s.extract fr k = x := ⟨_, rfl⟩
        rw [hx] at hsl HP
        have hgz := (unhide HG).low.size
        clear hx
        go_wp2_with (at_builtin; refine wpList_append_lies _ rfl _ _ 99 rfl w.heap.size 9 i0 (.string ⟨#[]⟩) 1 16 Tryz.underlying99 hi hz0 hz1 hz2 rfl (by decide) _ _ _ rfl ((unhide HG).below ((Below.refl _ _).alloc (Nat.le_refl _) _)).own ⟨wr.heap.size, 0, none⟩ 1 1 ([x].map Value.string) rfl rfl (newStr wr x) (one_strs _) (by omega) (by unfold maxLen; omega) (by omega) (by simp; omega) (wr.heap.size + 1) (by simp) ?_; intro g' cap' w7 hown' hgrow hat hlt7; have HF7 := hide (GrowS.push ((unhide HG).below ((Below.refl _ _).alloc (Nat.le_refl _) _)) hown' hgrow); clear hgrow hat hown' hlt7)
        go_roundw
        case rel =>
          refine ⟨k + 1, g', cap', ?_, ?_, by go_num, by omega, ?_⟩
          · rw [unhide HP]; simp [unhide HN]
          · rw [unhide HP]; go_num
          · show GrowS _ _ _ _ _ _
            rw [unhide HP]
            simp only [List.length_append, unhide HN]
            exact unhide HF7
        case measure => simp [intOf]; omega
      · have h32i : ¬ (y : Int) = 32 := by omega
        have HP : Hid (pcN s (k + 1) = pcN s k) := by show _ = _; rw [pcN, if_neg (by rw [unhide HY]; exact h32)]
        go_wp2_with fail
        go_roundw
        case rel =>
          refine ⟨k + 1, g, cp, ?_, ?_, by go_num, by omega, ?_⟩
          · rw [unhide HP, unhide HPS, unhide HN]
          · rw [unhide HP, unhide HFR]
          · show GrowS _ _ _ _ _ _
            rw [unhide HP, unhide HPS, unhide HN]
            exact unhide HG
        case measure => simp [intOf]; omega
    · have hlti : ¬ (k : Int) < (s.size : Int) := by omega
      obtain rfl : k = s.size := by omega
      go_wp2_with fail
      go_ret
      refine ⟨g, cp, ?_, ?_, (unhide HG).low⟩
      · rw [unhide HPS, unhide HN]; rfl
      · rw [unhide HPS, unhide HN]; exact (unhide HG).row

set_option maxHeartbeats 2000000 in
theorem l1In_any (a : Option Addr) (n cap : Nat) (ps : List ByteArray) (x : ByteArray) (w : World) (h : RowS w a n ps) (hn : n ≤ 100000) :
    Calls Tryz.prog 140 #[.slice a n cap, .string x] w fun e w' => e = .returned (.bool (ps.any fun p => p.toList == x.toList)) ∧ w' = w := by
  have hlen := hide h.len
  have H := hide h
  clear h
  go_enter Tryz.func140, Tryz.ntmps140
  go_wp2_with fail
  go_loop [5] (fun i => ∃ k : Nat, k ≤ n ∧ i = .int .i64 k ∧ Hid ((ps.take k).any (fun p => p.toList == x.toList) = false)) (fun i => n - (intOf i).toNat)
  case atStart => exact ⟨0, Nat.zero_le _, rfl, rfl⟩
  case round =>
    obtain ⟨k, hk, rfl, HA⟩ := hrel
    by_cases hlt : k < n
    · have hlti : (k : Int) < (n : Int) := by omega
      obtain ⟨b, off, e, hc⟩ : ∃ b off, a = some ⟨b, off, none⟩ ∧ w.cell? ⟨b, off + k, none⟩ = some (.string (ps.getD k ⟨#[]⟩)) := by
        rcases (unhide H).at_ with h0 | ⟨b, off, e, _, hc⟩
        · omega
        · exact ⟨b, off, e, hc k hlt⟩
      subst e
      have hkl : k < ps.length := by rw [unhide hlen]; exact hlt
      have htk : ps.take (k + 1) = ps.take k ++ [ps.getD k ⟨#[]⟩] := by
        rw [List.take_succ_eq_append_getElem hkl]
        simp [hkl]
      have hmem : ps.getD k ⟨#[]⟩ ∈ ps := by simp [hkl]
      obtain ⟨y, hy⟩ : ∃ y, ps.getD k ⟨#[]⟩ = y := ⟨_, rfl⟩
      rw [hy] at hc htk hmem
      cases hq : (y.toList == x.toList) with
      | true =>
        have HE : Hid ((ps.any fun p => p.toList == x.toList) = true) := List.any_eq_true.2 ⟨y, hmem, hq⟩
        have HQ := hide hq
        clear htk hmem hy
        go_wp2_with fail
        go_ret
        exact ⟨ret_bool (unhide HE).symm, rfl⟩
      | false =>
        have HA2 : Hid ((ps.take (k + 1)).any (fun p => p.toList == x.toList) = false) := by show _ = _; rw [htk, List.any_append, unhide HA]; simp [hq]
        clear htk hmem hy
        go_wp2_with fail
        go_round
        case rel => exact ⟨k + 1, by omega, by go_num, HA2⟩
        case measure => simp [intOf]; omega
    · have hlti : ¬ (k : Int) < (n : Int) := by omega
      have HE : Hid ((ps.any fun p => p.toList == x.toList) = false) := by
        have := unhide HA
        rwa [List.take_of_length_le (by rw [unhide hlen]; omega)] at this
      go_wp2_with fail
      go_ret
      exact ⟨ret_bool (unhide HE).symm, rfl⟩

set_option maxRecDepth 100000 in
theorem signs_pieces : (pcN signS signS.size).2 = signCs.map fun c => bstr (encZ (c : Nat)) := by kernel_rfl

theorem sign_size : signS.size ≤ 100000 := by
  have : decide (signS.size ≤ 100000) = true := by kernel_rfl
  exact of_decide_eq_true this

theorem signCs_le : ∀ c ∈ signCs, c ≤ 2097151 := by
  have : (signCs.all fun c => decide (c ≤ 2097151)) = true := by kernel_rfl
  intro c hc
  exact of_decide_eq_true (List.all_eq_true.1 this c hc)

/-- A character is a sign just if its bytes are in the list. -/
theorem sign_any {s : ByteArray} {i : Nat} (h : i < s.size) (hn : 0 < (runeAt s i).2) (hv : (runeAt s i).1 ≤ 2097151) : ((pcN signS signS.size).2.any fun p => p.toList == (s.extract i (i + (runeAt s i).2)).toList) = decide ((runeAt s i).1 ∈ signCs) := by
  have hb := rune_bytes h hn
  have hx : s.extract i (i + (runeAt s i).2) = bstr (encZ ((runeAt s i).1 : Nat)) := by rw [← hb, bstr_uz]
  rw [hx, signs_pieces, List.any_map]
  by_cases hm : (runeAt s i).1 ∈ signCs
  · rw [decide_eq_true hm]
    exact List.any_eq_true.2 ⟨_, hm, by simp⟩
  · rw [decide_eq_false hm, List.any_eq_false]
    intro c hc he
    have h1 : (bstr (encZ (c : Nat))).toList = (bstr (encZ ((runeAt s i).1 : Nat))).toList := by simpa using he
    rw [Lib.toList_data, Lib.toList_data] at h1
    have h2 : bstr (encZ (c : Nat)) = bstr (encZ ((runeAt s i).1 : Nat)) := ByteArray.ext (Array.toList_inj.1 h1)
    have h3 := encZ_inj (signCs_le c hc) hv (bstr_inj (encZ_byte (signCs_le c hc)) (encZ_byte hv) h2)
    exact hm (h3 ▸ hc)

end Go.Proofs.YtinndpnilmmmjaaGreatDoor
namespace Go.Proofs.YtinndpnilmmmjaaGreatDoor
open Go.RowKit

/-- What is asked of the list of signs. -/
def GivesL (w : World) (x : ByteArray) (T : Bool) (n : Nat) (e : Ending) (w' : World) : Prop := ∃ g cl, e = .returned (.slice (some ⟨g, 0, none⟩) n cl) ∧ (∀ W, Below w'.heap.size w' W → Calls Tryz.prog 140 #[.slice (some ⟨g, 0, none⟩) n cl, .string x] W fun e w'' => e = .returned (.bool T) ∧ w'' = W) ∧ Below w.heap.size w w'

section
variable {o : Oper} {a : Act} {ops : Array Oper}
theorem wanted_free (h : o.guard = none) : Region.wanted o (yielded ops a.tmps) = true := by simp [Region.wanted, h]

theorem wanted_on {j slot : Nat} (hg : o.guard = some (j, true)) (hj : (ops[j]?).bind (·.dst) = some slot) (hv : a.eval (.tmp slot) = .bool true) (hs : slot < a.tmps.size) : Region.wanted o (yielded ops a.tmps) = true := by
  have h1 : a.tmps[slot]? = some (.bool true) := by
    have : a.tmps[slot]?.getD undef = .bool true := by simpa [Act.eval] using hv
    rw [Array.getElem?_eq_getElem hs] at this ⊢
    simpa using this
  unfold Region.wanted yielded
  simp [hg, hj, h1]

theorem wpAnyH_put {P : Program} {Q : Exit → Act → World → Prop} {md : Region.Mode} {S : World → Prop} (i d : Nat) (v : Value) {oi : Oper} {fuel : Nat} {listed : Array Bool} {w : World} (hi : ops[i]? = some oi) (hd : oi.dst = some d)
    (hs : Region.noSelect ops = true) (hf : Region.free md ops listed i = true) (hr : (Region.ready md ops listed).contains i = true)
    (hQ : ∀ c a (d : Nat) v w, Q (.panic c) (a.put (some d) v) w → Q (.panic c) a w) (hg : Region.wanted oi (yielded ops a.tmps) = true) (hy : ∀ w, S w → (execOp a.eval oi).run P w = .ok (.value v) w) (hS : S w)
    (h : wpAnyH P md ops Q S fuel (listed.setIfInBounds i true) (a.put (some d) v) w) : wpAnyH P md ops Q S (fuel + 1) listed a w :=
  wpAnyH_take hi hs hf hr (fun c a w h => by rw [hd] at h; exact hQ c a d v w h) (Or.inl ⟨hg, hy⟩) hS (by rw [hd]; exact h)

theorem wpAnyH_one {P : Program} {Q : Exit → Act → World → Prop} {md : Region.Mode} {S : World → Prop} {i fuel : Nat} {listed : Array Bool} {w : World} (hr : Region.ready md ops listed = [i])
    (h : wpOp P ops Q i (fun a' w' => S w' ∧ wpAnyH P md ops Q S fuel (listed.setIfInBounds i true) a' w') a w) : wpAnyH P md ops Q S (fuel + 1) listed a w :=
  wpAnyH_all hr (by simp) (fun j hj => by
    have e : j = i := by simpa using hj
    rw [e]
    exact h)

theorem op_enter {P : Program} {Q : Exit → Act → World → Prop} {K : Act → World → Prop} {w : World} {i d f : Nat} {args : Array Value} {R : Ending → World → Prop} (hi : ops[i]? = some o) (hd : o.dst = some d) (hg : Region.wanted o (yielded ops a.tmps) = true) (he : (execOp a.eval o).run P w = .ok (.enter f args) w)
    (hc : Calls P f args w R) (hno : ∀ e w', R e w' → ∃ v, e = .returned v) (h : ∀ v w', R (.returned v) w' → K (a.put (some d) v) w') : wpOp P ops Q i K a w := by
  refine op_wp hi hg ?_
  unfold Oper.wp
  rw [he]
  show Calls _ _ _ _ _
  refine hc.mono ?_
  rintro e w' hr
  obtain ⟨v, rfl⟩ := hno _ _ hr
  show K (a.put o.dst v) w'
  rw [hd]
  exact h v w' hr

theorem wpAnyH_call {P : Program} {Q : Exit → Act → World → Prop} {md : Region.Mode} {fuel : Nat} {listed : Array Bool} {w : World} {i d f : Nat} {args : Array Value} {R : Ending → World → Prop} (hr : Region.ready md ops listed = [i]) (hi : ops[i]? = some o) (hd : o.dst = some d) (hg : Region.wanted o (yielded ops a.tmps) = true) (he : (execOp a.eval o).run P w = .ok (.enter f args) w)
    (hc : Calls P f args w R) (hno : ∀ e w', R e w' → ∃ v, e = .returned v) (h : ∀ v w', R (.returned v) w' → wpAnyH P md ops Q (fun _ => True) fuel (listed.setIfInBounds i true) (a.put (some d) v) w') : wpAnyH P md ops Q (fun _ => True) (fuel + 1) listed a w :=
  wpAnyH_one hr (op_enter hi hd hg he hc hno (fun v w' hv => ⟨trivial, h v w' hv⟩))

theorem rsM (x : Operand) {v : Value} (ho : o.op = .move x) (hx : a.eval x = v) (w : World) : (execOp a.eval o).run Tryz.prog w = .ok (.value v) w := by
  unfold execOp
  simp only [ho, hx]
  go_simp

theorem rsG (x : Operand) {n : Nat} (ho : o.op = .binOp .gtr 3 x (.const (.int .i64 0)) 3) (hx : a.eval x = .int .i64 (n : Nat)) (hn : 0 < n) (w : World) : (execOp a.eval o).run Tryz.prog w = .ok (.value (.bool true)) w := by
  have h1 : (0 : Int) < (n : Int) := by omega
  unfold execOp
  simp only [ho, hx]
  go_simp

theorem rsA (x y : Operand) {i j k : Nat} (ho : o.op = .binOp .add 3 x y 3) (hx : a.eval x = .int .i64 (i : Nat)) (hy : a.eval y = .int .i64 (j : Nat)) (hk : IntKind.i64.wrap ((i : Int) + (j : Int)) = (k : Nat)) (w : World) : (execOp a.eval o).run Tryz.prog w = .ok (.value (.int .i64 (k : Nat))) w := by
  unfold execOp
  simp only [ho, hx, hy]
  go_simp

theorem rsSl (x y z : Operand) {s t : ByteArray} {i k : Nat} (ho : o.op = .slice 9 x (some y) (some z) none) (hx : a.eval x = .string s) (hy : a.eval y = .int .i64 (i : Nat)) (hz : a.eval z = .int .i64 (k : Nat)) (hsl : ∀ W, (Instr.slice 9 (.string s) (some (.int .i64 (i : Nat))) (some (.int .i64 (k : Nat))) none).run Tryz.prog W = .ok (.string t) W) (w : World) : (execOp a.eval o).run Tryz.prog w = .ok (.value (.string t)) w := by
  unfold execOp
  simp only [ho, hx, hy, hz, Option.map_some, Option.map_none]
  have := hsl w
  go_simp

theorem rsP (x y : Operand) {T : Bool} (ho : o.op = .pick x y (.const (.bool false))) (hx : a.eval x = .bool true) (hy : a.eval y = .bool T) (w : World) : (execOp a.eval o).run Tryz.prog w = .ok (.value (.bool T)) w := by
  unfold execOp
  simp only [ho, hx, hy]
  go_simp

theorem rsC0 {w : World} (ho : o.op = .call { callee := .value (.func 142), args := #[], argTypes := #[] }) : (execOp a.eval o).run Tryz.prog w = .ok (.enter 142 #[]) w := by
  unfold execOp
  simp only [ho]
  go_simp

theorem rsC1 {w : World} {v : Value} {t : Nat} (ho : o.op = .call { callee := .value (.func 141), args := #[.tmp t], argTypes := #[9] }) (hx : a.eval (.tmp t) = v) : (execOp a.eval o).run Tryz.prog w = .ok (.enter 141 #[v]) w := by
  have hx' : a.tmps[t]?.getD undef = v := by simpa [Act.eval] using hx
  unfold execOp
  simp only [ho]
  go_simp

theorem rsC2 {w : World} {v u : Value} {t q : Nat} (ho : o.op = .call { callee := .value (.func 140), args := #[.tmp t, .tmp q], argTypes := #[99, 9] }) (hx : a.eval (.tmp t) = v) (hy : a.eval (.tmp q) = u) : (execOp a.eval o).run Tryz.prog w = .ok (.enter 140 #[v, u]) w := by
  have hx' : a.tmps[t]?.getD undef = v := by simpa [Act.eval] using hx
  have hy' : a.tmps[q]?.getD undef = u := by simpa [Act.eval] using hy
  unfold execOp
  simp only [ho]
  go_simp
end

def oS_0 : Oper := { dst := some 70, op := Op.move (Operand.tmp 7), type := 3, pos := "l1_text.go:193", after := #[], guard := none }
def oS_1 : Oper := { dst := some 71, op := Op.binOp BinOp.gtr 3 (Operand.tmp 70) (Operand.const (Value.int IntKind.i64 0)) 3, type := 4, pos := "l1_text.go:193", after := #[{ on := 0, ground := Ground.data }], guard := none }
def oS_2 : Oper := { dst := some 72, op := Op.move (Operand.tmp 71), type := 4, pos := "l1_text.go:193", after := #[{ on := 1, ground := Ground.data }], guard := none }
def oS_3 : Oper := { dst := some 73, op := Op.call { callee := Callee.value (Operand.func 142), args := #[], argTypes := #[] }, type := 9, pos := "l1_text.go:193", after := #[{ on := 2, ground := Ground.chain }, { on := 2, ground := Ground.guard }], guard := some (2, true) }
def oS_4 : Oper := { dst := some 74, op := Op.call { callee := Callee.value (Operand.func 141), args := #[Operand.tmp 73], argTypes := #[9] }, type := 99, pos := "l1_text.go:193", after := #[{ on := 3, ground := Ground.data }, { on := 3, ground := Ground.chain }, { on := 2, ground := Ground.guard }], guard := some (2, true) }
def oS_5 : Oper := { dst := some 75, op := Op.move (Operand.tmp 0), type := 9, pos := "l1_text.go:193", after := #[{ on := 2, ground := Ground.guard }], guard := some (2, true) }
def oS_6 : Oper := { dst := some 76, op := Op.move (Operand.tmp 1), type := 3, pos := "l1_text.go:193", after := #[{ on := 2, ground := Ground.guard }], guard := some (2, true) }
def oS_7 : Oper := { dst := some 77, op := Op.move (Operand.tmp 1), type := 3, pos := "l1_text.go:193", after := #[{ on := 2, ground := Ground.guard }], guard := some (2, true) }
def oS_8 : Oper := { dst := some 78, op := Op.move (Operand.tmp 7), type := 3, pos := "l1_text.go:193", after := #[{ on := 2, ground := Ground.guard }], guard := some (2, true) }
def oS_9 : Oper := { dst := some 79, op := Op.binOp BinOp.add 3 (Operand.tmp 77) (Operand.tmp 78) 3, type := 3, pos := "l1_text.go:193", after := #[{ on := 7, ground := Ground.data }, { on := 8, ground := Ground.data }, { on := 2, ground := Ground.guard }], guard := some (2, true) }
def oS_10 : Oper := { dst := some 80, op := Op.slice 9 (Operand.tmp 75) (some (Operand.tmp 76)) (some (Operand.tmp 79)) none, type := 9, pos := "l1_text.go:193", after := #[{ on := 5, ground := Ground.data }, { on := 6, ground := Ground.data }, { on := 9, ground := Ground.data }, { on := 2, ground := Ground.guard }], guard := some (2, true) }
def oS_11 : Oper := { dst := some 81, op := Op.call { callee := Callee.value (Operand.func 140), args := #[Operand.tmp 74, Operand.tmp 80], argTypes := #[99, 9] }, type := 4, pos := "l1_text.go:193", after := #[{ on := 4, ground := Ground.data }, { on := 10, ground := Ground.data }, { on := 4, ground := Ground.chain }, { on := 2, ground := Ground.guard }], guard := some (2, true) }
def oS_12 : Oper := { dst := some 82, op := Op.pick (Operand.tmp 72) (Operand.tmp 81) (Operand.const (Value.bool false)), type := 4, pos := "l1_text.go:193", after := #[{ on := 2, ground := Ground.data }, { on := 11, ground := Ground.data }], guard := none }

/-- The statement that asks whether a sign stands there. -/
def opsS : Array Oper := #[oS_0, oS_1, oS_2, oS_3, oS_4, oS_5, oS_6, oS_7, oS_8, oS_9, oS_10, oS_11, oS_12]

def outS (a : Act) (s x SG : ByteArray) (i rn e0 nl g cl : Nat) (T : Bool) : Act :=
  (((((((((((((a.put (some 70) (.int .i64 (rn : Nat))).put (some 71) (.bool true)).put (some 72) (.bool true)).put (some 75) (.string s)).put (some 76) (.int .i64 (i : Nat))).put (some 77) (.int .i64 (i : Nat))).put (some 78) (.int .i64 (rn : Nat))).put (some 79) (.int .i64 (e0 : Nat))).put (some 80) (.string x)).put (some 73) (.string SG)).put (some 74) (.slice (some ⟨g, 0, none⟩) nl cl)).put (some 81) (.bool T)).put (some 82) (.bool T))

set_option maxHeartbeats 4000000 in
set_option maxRecDepth 20000 in
theorem regionS {Q : Exit → Act → World → Prop} (a : Act) (W : World) (hsz : 95 ≤ a.tmps.size) (s x SG : ByteArray) (i rn e0 nl : Nat) (T : Bool) (h0 : a.eval (.tmp 0) = .string s) (h1 : a.eval (.tmp 1) = .int .i64 (i : Nat)) (h7 : a.eval (.tmp 7) = .int .i64 (rn : Nat)) (hpos : 0 < rn)
    (hadd : IntKind.i64.wrap ((i : Int) + (rn : Int)) = (e0 : Nat)) (hsl : ∀ W, (Instr.slice 9 (.string s) (some (.int .i64 (i : Nat))) (some (.int .i64 (e0 : Nat))) none).run Tryz.prog W = .ok (.string x) W)
    (HSG : ∀ W, Calls Tryz.prog 142 #[] W fun e w' => e = .returned (.string SG) ∧ w' = W) (HLI : ∀ W, Calls Tryz.prog 141 #[.string SG] W (GivesL W x T nl))
    (hQ : ∀ c a (d : Nat) v w, Q (.panic c) (a.put (some d) v) w → Q (.panic c) a w)
    (hend : ∀ g cl w', Below W.heap.size W w' → Q .normal (outS a s x SG i rn e0 nl g cl T) w') :
    (Code.region 13 opsS true).wp Tryz.prog Q a W := by
  refine wp_region_held (S := fun _ => True) (by kernel_rfl) ?_
  show wpAnyH _ _ _ _ _ (12 + 1) _ _ _
  refine wpAnyH_put 0 70 (.int .i64 (rn : Nat)) (oi := oS_0) rfl rfl (by kernel_rfl) (by kernel_rfl) (by kernel_rfl) hQ (wanted_free rfl) (fun w _ => rsM (.tmp 7) rfl h7 w) trivial ?_
  refine wpAnyH_put 1 71 (.bool true) (oi := oS_1) rfl rfl (by kernel_rfl) (by kernel_rfl) (by kernel_rfl) hQ (wanted_free rfl) (fun w _ => rsG (.tmp 70) rfl (eval_eq (by omega)) hpos w) trivial ?_
  refine wpAnyH_put 2 72 (.bool true) (oi := oS_2) rfl rfl (by kernel_rfl) (by kernel_rfl) (by kernel_rfl) hQ (wanted_free rfl) (fun w _ => rsM (.tmp 71) rfl (eval_eq (by rw [put_size]; omega)) w) trivial ?_
  refine wpAnyH_put 5 75 (.string s) (oi := oS_5) rfl rfl (by kernel_rfl) (by kernel_rfl) (by kernel_rfl) hQ (wanted_on rfl rfl (eval_eq (by rw [put_size, put_size]; omega)) (by rw [put_size, put_size, put_size]; omega)) (fun w _ => rsM (.tmp 0) rfl (by rw [eval_ne (by decide), eval_ne (by decide), eval_ne (by decide)]; exact h0) w) trivial ?_
  refine wpAnyH_put 6 76 (.int .i64 (i : Nat)) (oi := oS_6) rfl rfl (by kernel_rfl) (by kernel_rfl) (by kernel_rfl) hQ (wanted_on rfl rfl (by rw [eval_ne (by decide)]; exact eval_eq (by rw [put_size, put_size]; omega)) (by rw [put_size, put_size, put_size, put_size]; omega)) (fun w _ => rsM (.tmp 1) rfl (by rw [eval_ne (by decide), eval_ne (by decide), eval_ne (by decide), eval_ne (by decide)]; exact h1) w) trivial ?_
  refine wpAnyH_put 7 77 (.int .i64 (i : Nat)) (oi := oS_7) rfl rfl (by kernel_rfl) (by kernel_rfl) (by kernel_rfl) hQ (wanted_on rfl rfl (by rw [eval_ne (by decide), eval_ne (by decide)]; exact eval_eq (by rw [put_size, put_size]; omega)) (by rw [put_size, put_size, put_size, put_size, put_size]; omega)) (fun w _ => rsM (.tmp 1) rfl (by rw [eval_ne (by decide), eval_ne (by decide), eval_ne (by decide), eval_ne (by decide), eval_ne (by decide)]; exact h1) w) trivial ?_
  refine wpAnyH_put 8 78 (.int .i64 (rn : Nat)) (oi := oS_8) rfl rfl (by kernel_rfl) (by kernel_rfl) (by kernel_rfl) hQ (wanted_on rfl rfl (by rw [eval_ne (by decide), eval_ne (by decide), eval_ne (by decide)]; exact eval_eq (by rw [put_size, put_size]; omega)) (by rw [put_size, put_size, put_size, put_size, put_size, put_size]; omega)) (fun w _ => rsM (.tmp 7) rfl (by rw [eval_ne (by decide), eval_ne (by decide), eval_ne (by decide), eval_ne (by decide), eval_ne (by decide), eval_ne (by decide)]; exact h7) w) trivial ?_
  refine wpAnyH_put 9 79 (.int .i64 (e0 : Nat)) (oi := oS_9) rfl rfl (by kernel_rfl) (by kernel_rfl) (by kernel_rfl) hQ (wanted_on rfl rfl (by rw [eval_ne (by decide), eval_ne (by decide), eval_ne (by decide), eval_ne (by decide)]; exact eval_eq (by rw [put_size, put_size]; omega)) (by rw [put_size, put_size, put_size, put_size, put_size, put_size, put_size]; omega)) (fun w _ => rsA (.tmp 77) (.tmp 78) rfl (by rw [eval_ne (by decide)]; exact eval_eq (by rw [put_size, put_size, put_size, put_size, put_size]; omega)) (eval_eq (by rw [put_size, put_size, put_size, put_size, put_size, put_size]; omega)) hadd w) trivial ?_
  refine wpAnyH_put 10 80 (.string x) (oi := oS_10) rfl rfl (by kernel_rfl) (by kernel_rfl) (by kernel_rfl) hQ (wanted_on rfl rfl (by rw [eval_ne (by decide), eval_ne (by decide), eval_ne (by decide), eval_ne (by decide), eval_ne (by decide)]; exact eval_eq (by rw [put_size, put_size]; omega)) (by rw [put_size, put_size, put_size, put_size, put_size, put_size, put_size, put_size]; omega)) (fun w _ => rsSl (.tmp 75) (.tmp 76) (.tmp 79) rfl (by rw [eval_ne (by decide), eval_ne (by decide), eval_ne (by decide), eval_ne (by decide)]; exact eval_eq (by rw [put_size, put_size, put_size]; omega)) (by rw [eval_ne (by decide), eval_ne (by decide), eval_ne (by decide)]; exact eval_eq (by rw [put_size, put_size, put_size, put_size]; omega)) (eval_eq (by rw [put_size, put_size, put_size, put_size, put_size, put_size, put_size]; omega)) hsl w) trivial ?_
  refine wpAnyH_call (i := 3) (o := oS_3) (d := 73) (by kernel_rfl) rfl rfl (wanted_on rfl rfl (by rw [eval_ne (by decide), eval_ne (by decide), eval_ne (by decide), eval_ne (by decide), eval_ne (by decide), eval_ne (by decide)]; exact eval_eq (by rw [put_size, put_size]; omega)) (by rw [put_size, put_size, put_size, put_size, put_size, put_size, put_size, put_size, put_size]; omega)) (rsC0 rfl) (HSG _) (by rintro e w' ⟨rfl, _⟩; exact ⟨_, rfl⟩) ?_
  rintro v w6 ⟨hv, hw6⟩
  cases hv
  subst hw6
  refine wpAnyH_call (i := 4) (o := oS_4) (d := 74) (by kernel_rfl) rfl rfl (wanted_on rfl rfl (by rw [eval_ne (by decide), eval_ne (by decide), eval_ne (by decide), eval_ne (by decide), eval_ne (by decide), eval_ne (by decide), eval_ne (by decide)]; exact eval_eq (by rw [put_size, put_size]; omega)) (by rw [put_size, put_size, put_size, put_size, put_size, put_size, put_size, put_size, put_size, put_size]; omega)) (rsC1 rfl (eval_eq (by rw [put_size, put_size, put_size, put_size, put_size, put_size, put_size, put_size, put_size]; omega))) (HLI _) (by rintro e w' ⟨g, cl, rfl, _⟩; exact ⟨_, rfl⟩) ?_
  rintro v w7 ⟨g, cl, hv, hin, hb7⟩
  cases hv
  refine wpAnyH_call (i := 11) (o := oS_11) (d := 81) (by kernel_rfl) rfl rfl (wanted_on rfl rfl (by rw [eval_ne (by decide), eval_ne (by decide), eval_ne (by decide), eval_ne (by decide), eval_ne (by decide), eval_ne (by decide), eval_ne (by decide), eval_ne (by decide)]; exact eval_eq (by rw [put_size, put_size]; omega)) (by rw [put_size, put_size, put_size, put_size, put_size, put_size, put_size, put_size, put_size, put_size, put_size]; omega)) (rsC2 rfl (eval_eq (by rw [put_size, put_size, put_size, put_size, put_size, put_size, put_size, put_size, put_size, put_size]; omega)) (by rw [eval_ne (by decide), eval_ne (by decide)]; exact eval_eq (by rw [put_size, put_size, put_size, put_size, put_size, put_size, put_size, put_size]; omega))) (hin _ (Below.refl _ _)) (by rintro e w' ⟨rfl, _⟩; exact ⟨_, rfl⟩) ?_
  rintro v w8 ⟨hv, hw8⟩
  cases hv
  subst hw8
  refine wpAnyH_put 12 82 (.bool T) (oi := oS_12) rfl rfl (by kernel_rfl) (by kernel_rfl) (by kernel_rfl) hQ (wanted_free rfl) (fun w _ => rsP (.tmp 72) (.tmp 81) rfl (by rw [eval_ne (by decide), eval_ne (by decide), eval_ne (by decide), eval_ne (by decide), eval_ne (by decide), eval_ne (by decide), eval_ne (by decide), eval_ne (by decide), eval_ne (by decide)]; exact eval_eq (by rw [put_size, put_size]; omega)) (eval_eq (by rw [put_size, put_size, put_size, put_size, put_size, put_size, put_size, put_size, put_size, put_size, put_size]; omega)) w) trivial ?_
  refine wpAnyH_done (by kernel_rfl) ?_ _
  exact hend g cl _ ((Below.refl _ W).drew.trans hb7)

end Go.Proofs.YtinndpnilmmmjaaGreatDoor
namespace Go.Proofs.YtinndpnilmmmjaaGreatDoor
open Go.RowKit

theorem rune_le (s : ByteArray) (i : Nat) : (runeAt s i).1 ≤ 2097151 := by
  have hb := bt_lt s i
  by_cases h1 : bt s i < 128
  · rw [rune_ascii h1]; simp; omega
  · by_cases h2 : bt s i < 192 ∨ 248 ≤ bt s i
    · rw [rune_0 (by omega) h2]; simp
    · by_cases h3 : bt s i < 224
      · rw [rune_2 (by omega) h3]
        split
        · show v2 s i ≤ _; unfold v2; omega
        · simp
      · by_cases h4 : bt s i < 240
        · rw [rune_3 (by omega) h4]
          split
          · show v3 s i ≤ _; unfold v3; omega
          · simp
        · rw [rune_4 (by omega) (by omega)]
          split
          · show v4 s i ≤ _; unfold v4; omega
          · simp

set_option maxRecDepth 20000 in
set_option maxHeartbeats 2000000 in
theorem l1Token_sign (s : ByteArray) (i : Nat) (w : World) (hi : i < s.size) (hs : s.size ≤ 100000) (hd : isD (bt s i) = false) (hh : high s i = false) (h39 : bt s i ≠ 39) (hl : isL (bt s i) = false) :
    Calls Tryz.prog 89 #[.string s, .int .i64 (i : Nat)] w (GivesGot w (signTok s i)) := by
  obtain ⟨Q, hQ⟩ : ∃ Q, Q = w.alloc (.cells #[.int .i64 0, .int .i64 0, .string ⟨#[]⟩, .int .i64 0, .int .i64 0, .int .i64 0] 119) := ⟨_, rfl⟩
  have HQ := hide hQ
  have HBX : Hid (GBox Q w.heap.size (.int .i64 0) (.int .i64 0) (.string ⟨#[]⟩) (.int .i64 0) (.int .i64 0) (.int .i64 0)) := by rw [hQ]; exact GBox.new w _ _ _ _ _ _
  have HBQ : Hid (Below w.heap.size w Q) := by rw [hQ]; exact (Below.refl _ _).alloc (Nat.le_refl _) _
  clear hQ
  have hlti : (i : Int) < (s.size : Int) := by omega
  have hix := fun W => run_idx hi W
  have HD := hide (fun W => l1Digit_any (bt s i) W)
  have HL := hide (fun W => l1Letter_any (bt s i) W)
  have HSI : Hid (∀ W, Calls Tryz.prog 88 #[.string s, .int .i64 (i : Nat), .string ⟨#[194, 175]⟩] W fun e w' => e = .returned (.bool (high s i)) ∧ w' = W) := fun W => by
    rw [← starts_high]
    exact l1Starts_any s ⟨#[194, 175]⟩ i (by omega) (by omega) (by decide) W
  rw [hd] at HD
  rw [hl] at HL
  rw [hh] at HSI
  have HY0 : Hid (bt s i < 256) := bt_lt s i
  obtain ⟨y, hy⟩ : ∃ y, bt s i = y := ⟨_, rfl⟩
  rw [hy] at hix HD HL HY0 h39
  have hy256 := unhide HY0
  have h39i : ¬ (y : Int) = 39 := by omega
  clear hy HY0 hd hl hh h39
  obtain ⟨cap, W1, hcv, hcap, hrow, hbW, hzW⟩ := conv_str Q s
  have HR0 := hide (l1Rune_any (some ⟨Q.heap.size, 0, none⟩) cap s i W1 hrow hi (by omega))
  have hre := rune_end hi
  have hrl := rune_le s i
  have HSA : Hid (0 < (runeAt s i).2 → ((pcN signS signS.size).2.any fun p => p.toList == (s.extract i (i + (runeAt s i).2)).toList) = decide ((runeAt s i).1 ∈ signCs)) := fun h => sign_any hi h hrl
  have HT4 : Hid (signTok s i = if 0 < (runeAt s i).2 ∧ (runeAt s i).1 ∈ signCs then ⟨4, 0, s.extract i (i + (runeAt s i).2), i + (runeAt s i).2, 0⟩ else bad 1) := rfl
  obtain ⟨rv, hrv⟩ : ∃ v, (runeAt s i).1 = v := ⟨_, rfl⟩
  obtain ⟨rn, hrn⟩ : ∃ n, (runeAt s i).2 = n := ⟨_, rfl⟩
  have HR2 : Hid (Calls Tryz.prog 139 #[.slice (some ⟨Q.heap.size, 0, none⟩) s.size cap, .int .i64 (i : Nat)] W1 fun e w' => e = .returned (.tuple #[.int .i64 (rv : Nat), .int .i64 (rn : Nat)]) ∧ Below W1.heap.size W1 w') := by
    have := unhide HR0
    unfold GivesRune at this
    rw [hrv, hrn] at this
    exact this
  rw [hrn] at hre
  rw [hrn, hrv] at HSA HT4
  have HBX1 := hide ((unhide HBX).below (Nat.le_refl _) hbW)
  have HBW : Hid (Below w.heap.size w W1) := (unhide HBQ).trans (hbW.mono (unhide HBQ).size)
  obtain ⟨qs, hqs⟩ : ∃ q, Q.heap.size = q := ⟨_, rfl⟩
  rw [hqs] at HR2 hcv
  rw [unhide HQ] at hcv
  obtain ⟨e0, he0⟩ : ∃ e, i + rn = e := ⟨_, rfl⟩
  rw [he0] at HSA HT4 hre
  have hei : (i : Int) + (rn : Int) = (e0 : Int) := by omega
  have hsl := fun W => run_sub (s := s) (p := i) (q := e0) (by omega) hre.1 W
  obtain ⟨x, hx⟩ : ∃ x, s.extract i e0 = x := ⟨_, rfl⟩
  rw [hx] at hsl HSA HT4
  obtain ⟨T, hT⟩ : ∃ T, decide (0 < rn ∧ rv ∈ signCs) = T := ⟨_, rfl⟩
  have HTT := hide hT
  have hrnb : rn ≤ 4 := hre.2
  have he0b : e0 ≤ s.size := hre.1
  have HTF : Hid (0 < rn → ((pcN signS signS.size).2.any fun p => p.toList == x.toList) = T) := fun h0 => by
    rw [unhide HSA h0, ← unhide HTT]
    by_cases hm : rv ∈ signCs
    · rw [decide_eq_true hm, decide_eq_true ⟨h0, hm⟩]
    · rw [decide_eq_false hm, decide_eq_false (fun h => hm h.2)]
  obtain ⟨nl, hnl⟩ : ∃ n, (pcN signS signS.size).2.length = n := ⟨_, rfl⟩
  have HLI : Hid (0 < rn → ∀ W, Calls Tryz.prog 141 #[.string signS] W (GivesL W x T nl)) := fun h0 W => (l1List_any signS W sign_size).mono (by
    rintro e w' ⟨g, cl, rfl, hrs, hb⟩
    refine ⟨g, cl, by rw [hnl], fun W' hW' => ?_, hb⟩
    have hsz : (pcN signS signS.size).2.length ≤ 100000 := Nat.le_trans (pcN_le signS signS.size).2 sign_size
    have := l1In_any (some ⟨g, 0, none⟩) _ cl _ x W' (hrs.below (Nat.le_refl _) hW') hsz
    rw [hnl, unhide HTF h0] at this
    exact this)
  have HSG := hide l1Signs_any
  obtain ⟨SG, hSG⟩ : ∃ z, signS = z := ⟨_, rfl⟩
  rw [hSG] at HLI HSG
  clear HR0 hrow hbW hzW hcap hrl hrv hrn hqs hx he0 hT hre HSA HTF hnl hSG
  go_enter Tryz.func89, Tryz.ntmps89
  go_upto_region 13 with (first | (go_at_call 116; refine (unhide HD _).mono ?_; rintro e' w1 ⟨rfl, hw⟩; obtain rfl := hw.symm) | (go_at_call 121; refine (l1High_any _).mono ?_; rintro e' w1 ⟨rfl, hw⟩; obtain rfl := hw.symm) | (go_at_call 88; refine (unhide HSI _).mono ?_; rintro e' w1 ⟨rfl, hw⟩; obtain rfl := hw.symm) | (go_at_call 115; refine (unhide HL _).mono ?_; rintro e' w1 ⟨rfl, hw⟩; obtain rfl := hw.symm) | (go_at_call 139; refine (unhide HR2).mono ?_; rintro e' w5 ⟨rfl, hb5⟩; have HBX5 := hide ((unhide HBX1).below (Nat.le_refl _) hb5); have HB5 := hide ((unhide HBW).trans (hb5.mono (unhide HBW).size)); clear hb5))
  clear HD HL HSI hix hcv HR2 HBX1 HBW HBX HBQ
  go_cut [82] (fun t wx => t = .bool T ∧ Hid (Below w5.heap.size w5 wx))
  case first =>
    by_cases h0 : 0 < rn
    case neg =>
      have HTF : Hid (T = false) := by show _ = _; rw [← unhide HTT]; exact decide_eq_false (fun h => h0 h.1)
      obtain rfl : rn = 0 := by omega
      clear h0 hsl
      go_quiet (fail)
      go_wp2_with fail
      go_meet
      case rel => exact ⟨by rw [unhide HTF], Below.drewN (Below.refl _ _) _⟩
    case pos =>
      have HLI2 := hide (unhide HLI h0)
      have HB0 : Hid (Below w5.heap.size w5 w5.drew) := (Below.refl _ _).drew
      clear HLI HT4 HTT HBX5 HB5 hi
      have hadd : IntKind.i64.wrap ((i : Int) + (rn : Int)) = (e0 : Nat) := by rw [hei, IntKind.wrap_i64]; omega
      refine regionS _ w5 (by simp) s x SG i rn e0 nl T rfl rfl rfl h0 hadd hsl (unhide HSG) (unhide HLI2) (fun _ _ _ _ _ h => h) ?_
      intro g cl w' hb
      have HBB := hide hb
      clear hb
      simp only [outS, Act.put, List.setIfInBounds_toArray, List.set_cons_zero, List.set_cons_succ]
      go_wp2_with fail
      go_meet
      case rel => exact ⟨rfl, HBB⟩
  case rest =>
    obtain ⟨rfl, HBc⟩ := hcut
    obtain ⟨w6, hw6⟩ : ∃ z, z = wc := ⟨_, rfl⟩
    subst hw6
    have HBX6 := hide ((unhide HBX5).below (Nat.le_refl _) (unhide HBc))
    have HB6 : Hid (Below w.heap.size w w6) := (unhide HB5).trans ((unhide HBc).mono (unhide HB5).size)
    obtain ⟨q0, q1, q2, q3, q4, q5, qf⟩ := (unhide HBX6).all
    have f0 := qf 0
    have f1 := qf 1
    have f2 := qf 2
    have f3 := qf 3
    have f4 := qf 4
    have f5 := qf 5
    clear qf HBX5 HB5 HBc
    cases T with
    | true =>
      have HE : Hid (signTok s i = ⟨4, 0, x, e0, 0⟩) := by show _ = _; rw [unhide HT4, if_pos (of_decide_eq_true (unhide HTT))]
      go_wp2_with fail
      refine bodyPost_ret (v := gotV ⟨4, 0, x, e0, 0⟩) (by simp [results, Tryz.results89, go_sem, q0, q1, q2, q3, q4, q5, gotV]) rfl ?_
      exact ⟨by rw [unhide HE], (((((((unhide HB6)).setCell (Nat.le_refl _) _).setCell (Nat.le_refl _) _).setCell (Nat.le_refl _) _).setCell (Nat.le_refl _) _).setCell (Nat.le_refl _) _).setCell (Nat.le_refl _) _⟩
    | false =>
      have HE : Hid (signTok s i = bad 1) := by show _ = _; rw [unhide HT4, if_neg (of_decide_eq_false (unhide HTT))]
      go_wp2_with fail
      refine bodyPost_ret (v := gotV (bad 1)) (by simp [results, Tryz.results89, go_sem, q0, q1, q2, q3, q4, q5, gotV, bad]) rfl ?_
      exact ⟨by rw [unhide HE], (((((((unhide HB6)).setCell (Nat.le_refl _) _).setCell (Nat.le_refl _) _).setCell (Nat.le_refl _) _).setCell (Nat.le_refl _) _).setCell (Nat.le_refl _) _).setCell (Nat.le_refl _) _⟩

end Go.Proofs.YtinndpnilmmmjaaGreatDoor
namespace Go.Proofs.YtinndpnilmmmjaaGreatDoor
open Go.RowKit

set_option maxRecDepth 20000 in
set_option maxHeartbeats 8000000 in
theorem l1Token_any (s : ByteArray) (i : Nat) (w : World) (hi : i < s.size) (hs : s.size ≤ 100000) :
    Calls Tryz.prog 89 #[.string s, .int .i64 (i : Nat)] w (GivesGot w (tokAt s i)) := by
  by_cases hsg : isD (bt s i) = false ∧ high s i = false ∧ bt s i ≠ 39 ∧ isL (bt s i) = false
  · have e : tokAt s i = signTok s i := by
      unfold tokAt
      rw [if_neg (by rw [hsg.1, hsg.2.1]; rintro (h | h) <;> cases h), if_neg hsg.2.2.1, if_neg (by rw [hsg.2.2.2]; decide)]
    rw [e]
    exact l1Token_sign s i w hi hs hsg.1 hsg.2.1 hsg.2.2.1 hsg.2.2.2
  have HNS := hide hsg
  clear hsg
  obtain ⟨Q, hQ⟩ : ∃ Q, Q = w.alloc (.cells #[.int .i64 0, .int .i64 0, .string ⟨#[]⟩, .int .i64 0, .int .i64 0, .int .i64 0] 119) := ⟨_, rfl⟩
  have HQ := hide hQ
  have HBX : Hid (GBox Q w.heap.size (.int .i64 0) (.int .i64 0) (.string ⟨#[]⟩) (.int .i64 0) (.int .i64 0) (.int .i64 0)) := by rw [hQ]; exact GBox.new w _ _ _ _ _ _
  have HBQ : Hid (Below w.heap.size w Q) := by rw [hQ]; exact (Below.refl _ _).alloc (Nat.le_refl _) _
  have hQs : Q.heap.size = w.heap.size + 1 := by rw [hQ]; simp
  have HQS := hide hQs
  clear hQ hQs
  have hlti : (i : Int) < (s.size : Int) := by omega
  have hix := fun W => run_idx hi W
  have HD := hide (fun W => l1Digit_any (bt s i) W)
  have HL := hide (fun W => l1Letter_any (bt s i) W)
  have HSI : Hid (∀ W, Calls Tryz.prog 88 #[.string s, .int .i64 (i : Nat), .string ⟨#[194, 175]⟩] W fun e w' => e = .returned (.bool (high s i)) ∧ w' = W) := fun W => by
    rw [← starts_high]
    exact l1Starts_any s ⟨#[194, 175]⟩ i (by omega) (by omega) (by decide) W
  have HTA : Hid (tokAt s i = if isD (bt s i) = true ∨ high s i = true then numTok s i else if bt s i = 39 then textTok s (s.size - i) (i + 1) [] else if isL (bt s i) = true then nameTok s i else signTok s i) := rfl
  have HY0 : Hid (bt s i < 256) := bt_lt s i
  obtain ⟨y, hy⟩ : ∃ y, bt s i = y := ⟨_, rfl⟩
  have HY := hide hy
  rw [hy] at hix HD HL HTA HY0 HNS
  have hy256 := unhide HY0
  clear hy HY0
  go_enter Tryz.func89, Tryz.ntmps89
  cases hd : isD y with
  | true =>
    rw [hd] at HD
    obtain ⟨g, hg⟩ : ∃ g, numTok s i = g := ⟨_, rfl⟩
    have HC := hide (l1Number_any s i Q hi (by omega))
    rw [hg] at HC
    have HE : Hid (tokAt s i = g) := by show _ = _; rw [← hg]; rw [unhide HTA, if_pos (.inl hd)]
    clear hg
    obtain ⟨gk, gn, gt, ge, gc⟩ := g
    have HC2 : Hid (Calls Tryz.prog 137 #[.string s, .int .i64 (i : Nat)] Q fun e' w' => e' = .returned (.agg #[.int .i64 gk, .int .i64 gn, .string gt, .int .i64 0, .int .i64 (ge : Nat), .int .i64 gc]) ∧ Below Q.heap.size Q w') := unhide HC
    clear HC
    go_wp2_with (first | (go_at_call 116; refine (unhide HD _).mono ?_; rintro e' w1 ⟨rfl, hw⟩; obtain rfl := hw.symm) | (go_at_call 137; rw [← unhide HQ]; refine (unhide HC2).mono ?_; rintro e' w5 ⟨rfl, hb5⟩; obtain ⟨q0, q1, q2, q3, q4, q5, qf⟩ := ((unhide HBX).below (Nat.le_refl _) hb5).all; have f0 := qf 0; have f1 := qf 1; have f2 := qf 2; have f3 := qf 3; have f4 := qf 4; have f5 := qf 5; clear qf; have HB5 := hide ((unhide HBQ).trans (hb5.mono (unhide HBQ).size)); clear hb5))
    refine bodyPost_ret (v := gotV ⟨gk, gn, gt, ge, gc⟩) (by simp [results, Tryz.results89, go_sem, q0, q1, q2, q3, q4, q5, gotV]) rfl ?_
    exact ⟨by rw [unhide HE], (((((((unhide HB5)).setCell (Nat.le_refl _) _).setCell (Nat.le_refl _) _).setCell (Nat.le_refl _) _).setCell (Nat.le_refl _) _).setCell (Nat.le_refl _) _).setCell (Nat.le_refl _) _⟩
  | false =>
    rw [hd] at HD
    cases hh : high s i with
    | true =>
      rw [hh] at HSI
      obtain ⟨g, hg⟩ : ∃ g, numTok s i = g := ⟨_, rfl⟩
      have HC := hide (l1Number_any s i Q hi (by omega))
      rw [hg] at HC
      have HE : Hid (tokAt s i = g) := by show _ = _; rw [← hg]; rw [unhide HTA, if_pos (.inr hh)]
      clear hg
      obtain ⟨gk, gn, gt, ge, gc⟩ := g
      have HC2 : Hid (Calls Tryz.prog 137 #[.string s, .int .i64 (i : Nat)] Q fun e' w' => e' = .returned (.agg #[.int .i64 gk, .int .i64 gn, .string gt, .int .i64 0, .int .i64 (ge : Nat), .int .i64 gc]) ∧ Below Q.heap.size Q w') := unhide HC
      clear HC
      go_wp2_with (first | (go_at_call 116; refine (unhide HD _).mono ?_; rintro e' w1 ⟨rfl, hw⟩; obtain rfl := hw.symm) | (go_at_call 121; refine (l1High_any _).mono ?_; rintro e' w1 ⟨rfl, hw⟩; obtain rfl := hw.symm) | (go_at_call 88; refine (unhide HSI _).mono ?_; rintro e' w1 ⟨rfl, hw⟩; obtain rfl := hw.symm) | (go_at_call 137; rw [← unhide HQ]; refine (unhide HC2).mono ?_; rintro e' w5 ⟨rfl, hb5⟩; obtain ⟨q0, q1, q2, q3, q4, q5, qf⟩ := ((unhide HBX).below (Nat.le_refl _) hb5).all; have f0 := qf 0; have f1 := qf 1; have f2 := qf 2; have f3 := qf 3; have f4 := qf 4; have f5 := qf 5; clear qf; have HB5 := hide ((unhide HBQ).trans (hb5.mono (unhide HBQ).size)); clear hb5))
      refine bodyPost_ret (v := gotV ⟨gk, gn, gt, ge, gc⟩) (by simp [results, Tryz.results89, go_sem, q0, q1, q2, q3, q4, q5, gotV]) rfl ?_
      exact ⟨by rw [unhide HE], (((((((unhide HB5)).setCell (Nat.le_refl _) _).setCell (Nat.le_refl _) _).setCell (Nat.le_refl _) _).setCell (Nat.le_refl _) _).setCell (Nat.le_refl _) _).setCell (Nat.le_refl _) _⟩
    | false =>
      rw [hh] at HSI
      have HT2 : Hid (tokAt s i = if y = 39 then textTok s (s.size - i) (i + 1) [] else if isL y = true then nameTok s i else signTok s i) := by
        show _ = _
        rw [unhide HTA, if_neg (by rw [hd, hh]; rintro (h | h) <;> cases h)]
      have HDF := hide hd
      have HHF := hide hh
      clear HTA hd hh
      by_cases h39 : y = 39
      case pos =>
        subst h39
        obtain ⟨g, hg⟩ : ∃ g, textTok s (s.size - i) (i + 1) [] = g := ⟨_, rfl⟩
        have HC := hide (l1Text_any s i Q hi (by omega))
        rw [hg] at HC
        have HE : Hid (tokAt s i = g) := by show _ = _; rw [← hg]; rw [unhide HT2, if_pos rfl]
        clear hg
        obtain ⟨gk, gn, gt, ge, gc⟩ := g
        have HC2 : Hid (Calls Tryz.prog 138 #[.string s, .int .i64 (i : Nat)] Q fun e' w' => e' = .returned (.agg #[.int .i64 gk, .int .i64 gn, .string gt, .int .i64 0, .int .i64 (ge : Nat), .int .i64 gc]) ∧ Below Q.heap.size Q w') := unhide HC
        clear HC
        go_wp2_with (first | (go_at_call 116; refine (unhide HD _).mono ?_; rintro e' w1 ⟨rfl, hw⟩; obtain rfl := hw.symm) | (go_at_call 121; refine (l1High_any _).mono ?_; rintro e' w1 ⟨rfl, hw⟩; obtain rfl := hw.symm) | (go_at_call 88; refine (unhide HSI _).mono ?_; rintro e' w1 ⟨rfl, hw⟩; obtain rfl := hw.symm) | (go_at_call 138; rw [← unhide HQ]; refine (unhide HC2).mono ?_; rintro e' w5 ⟨rfl, hb5⟩; obtain ⟨q0, q1, q2, q3, q4, q5, qf⟩ := ((unhide HBX).below (Nat.le_refl _) hb5).all; have f0 := qf 0; have f1 := qf 1; have f2 := qf 2; have f3 := qf 3; have f4 := qf 4; have f5 := qf 5; clear qf; have HB5 := hide ((unhide HBQ).trans (hb5.mono (unhide HBQ).size)); clear hb5))
        refine bodyPost_ret (v := gotV ⟨gk, gn, gt, ge, gc⟩) (by simp [results, Tryz.results89, go_sem, q0, q1, q2, q3, q4, q5, gotV]) rfl ?_
        exact ⟨by rw [unhide HE], (((((((unhide HB5)).setCell (Nat.le_refl _) _).setCell (Nat.le_refl _) _).setCell (Nat.le_refl _) _).setCell (Nat.le_refl _) _).setCell (Nat.le_refl _) _).setCell (Nat.le_refl _) _⟩
      case neg =>
        have h39i : ¬ (y : Int) = 39 := by omega
        cases hl : isL y with
        | true =>
          rw [hl] at HL
          have HT3 : Hid (tokAt s i = nameTok s i) := by show _ = _; rw [unhide HT2, if_neg h39, if_pos hl]
          clear HT2 h39 hl
          obtain ⟨q0, q1, q2, q3, q4, q5, qf⟩ := (unhide HBX).all
          have f0 := qf 0
          have f1 := qf 1
          have f2 := qf 2
          have f3 := qf 3
          have f4 := qf 4
          have f5 := qf 5
          clear qf
          go_wp2_with (first | (go_at_call 116; refine (unhide HD _).mono ?_; rintro e' w1 ⟨rfl, hw⟩; obtain rfl := hw.symm) | (go_at_call 121; refine (l1High_any _).mono ?_; rintro e' w1 ⟨rfl, hw⟩; obtain rfl := hw.symm) | (go_at_call 88; refine (unhide HSI _).mono ?_; rintro e' w1 ⟨rfl, hw⟩; obtain rfl := hw.symm) | (go_at_call 115; refine (unhide HL _).mono ?_; rintro e' w1 ⟨rfl, hw⟩; obtain rfl := hw.symm))
          rw [← unhide HQ]
          clear HD HL HSI hix
          go_loopw [5] (fun a wr => ∃ k : Nat, a = .int .i64 ((i + k : Nat) : Int) ∧ i + k ≤ s.size ∧ Hid (∀ j, j < k → i + j < s.size ∧ isLD (bt s (i + j)) = true) ∧ Q = wr) (fun a _ => s.size - (intOf a).toNat)
          case atStart => exact ⟨0, rfl, by omega, fun j hj => absurd hj (Nat.not_lt_zero _), rfl⟩
          case round =>
            obtain ⟨k, rfl, hk, HK, rfl⟩ := hrel
            obtain ⟨q, hq⟩ : ∃ q, i + k = q := ⟨_, rfl⟩
            rw [hq] at hk
            rw [hq]
            have HQE := hide hq
            have hiq : i ≤ q := by omega
            clear hq
            by_cases hmore : q < s.size ∧ isLD (bt s q) = true
            case pos =>
              have hlt := hmore.1
              have hqi : (q : Int) < (s.size : Int) := by omega
              have hix := fun W => run_idx hlt W
              have HD := hide (fun W => l1Digit_any (bt s q) W)
              have HL := hide (fun W => l1Letter_any (bt s q) W)
              have HK2 : Hid (∀ j, j < k + 1 → i + j < s.size ∧ isLD (bt s (i + j)) = true) := fun j hj => by
                by_cases e : j = k
                · subst e; rw [unhide HQE]; exact hmore
                · exact unhide HK j (by omega)
              have hor : isL (bt s q) = true ∨ (isL (bt s q) = false ∧ isD (bt s q) = true) := by
                have := hmore.2
                unfold isLD at this
                cases h : isL (bt s q) with
                | true => exact .inl rfl
                | false => rw [h] at this; exact .inr ⟨rfl, by simpa using this⟩
              obtain ⟨z, hz⟩ : ∃ z, bt s q = z := ⟨_, rfl⟩
              rw [hz] at hix HD HL hor
              clear hz hmore
              rcases hor with hL | ⟨hL, hD⟩
              · rw [hL] at HL
                go_wp2_with (first | (go_at_call 115; refine (unhide HL _).mono ?_; rintro e' w1 ⟨rfl, hw⟩; obtain rfl := hw.symm) | (go_at_call 116; refine (unhide HD _).mono ?_; rintro e' w1 ⟨rfl, hw⟩; obtain rfl := hw.symm))
                go_roundw
                case rel => exact ⟨k + 1, by have := unhide HQE; go_num, by have := unhide HQE; omega, HK2, by first | trivial | rfl⟩
                case measure => simp [intOf]; omega
              · rw [hL] at HL
                rw [hD] at HD
                go_wp2_with (first | (go_at_call 115; refine (unhide HL _).mono ?_; rintro e' w1 ⟨rfl, hw⟩; obtain rfl := hw.symm) | (go_at_call 116; refine (unhide HD _).mono ?_; rintro e' w1 ⟨rfl, hw⟩; obtain rfl := hw.symm))
                go_roundw
                case rel => exact ⟨k + 1, by have := unhide HQE; go_num, by have := unhide HQE; omega, HK2, by first | trivial | rfl⟩
                case measure => simp [intOf]; omega
            case neg =>
              have HEND : Hid (endOf isLD s i = q) := by show _ = _; rw [endOf_is k i (unhide HK) (by rw [unhide HQE]; exact hmore)]; exact unhide HQE
              have hsl := fun W => run_sub (s := s) (p := i) (q := q) hiq hk W
              have HBAD : Hid (20 < q - i → tokAt s i = bad 1) := fun h => by rw [unhide HT3, nameTok, unhide HEND, if_pos h]
              have HTOK : Hid (¬ 20 < q - i → tokAt s i = ⟨3, 0, s.extract i q, q, 0⟩) := fun h => by rw [unhide HT3, nameTok, unhide HEND, if_neg h]
              obtain ⟨x, hx⟩ : ∃ x, s.extract i q = x := ⟨_, rfl⟩
              rw [hx] at hsl HTOK
              have hsub : IntKind.i64.wrap ((q : Int) - (i : Int)) = (q : Int) - (i : Int) := by rw [IntKind.wrap_i64]; omega
              clear hx HEND HT3
              have hcs : (¬ q < s.size) ∨ (q < s.size ∧ isL (bt s q) = false ∧ isD (bt s q) = false) := by
                by_cases h : q < s.size
                · right
                  refine ⟨h, ?_⟩
                  have h2 : isLD (bt s q) = false := by cases h3 : isLD (bt s q) with | false => rfl | true => exact absurd ⟨h, h3⟩ hmore
                  unfold isLD at h2
                  simpa using h2
                · exact .inl h
              clear hmore
              rcases hcs with hqs | ⟨hlt, hL, hD⟩
              · have hqi : ¬ (q : Int) < (s.size : Int) := by omega
                by_cases h20 : 20 < q - i
                case pos =>
                  have h20i : (20 : Int) < (q : Int) - (i : Int) := by omega
                  have HE := hide (unhide HBAD h20)
                  go_wp2_with fail
                  refine bodyPost_ret (v := gotV (bad 1)) (by simp [results, Tryz.results89, go_sem, q0, q1, q2, q3, q4, q5, gotV, bad]) rfl ?_
                  exact ⟨by rw [unhide HE], (((((((unhide HBQ)).setCell (Nat.le_refl _) _).setCell (Nat.le_refl _) _).setCell (Nat.le_refl _) _).setCell (Nat.le_refl _) _).setCell (Nat.le_refl _) _).setCell (Nat.le_refl _) _⟩
                case neg =>
                  have h20i : ¬ (20 : Int) < (q : Int) - (i : Int) := by omega
                  have HE := hide (unhide HTOK h20)
                  go_wp2_with fail
                  refine bodyPost_ret (v := gotV ⟨3, 0, x, q, 0⟩) (by simp [results, Tryz.results89, go_sem, q0, q1, q2, q3, q4, q5, gotV]) rfl ?_
                  exact ⟨by rw [unhide HE], (((((((unhide HBQ)).setCell (Nat.le_refl _) _).setCell (Nat.le_refl _) _).setCell (Nat.le_refl _) _).setCell (Nat.le_refl _) _).setCell (Nat.le_refl _) _).setCell (Nat.le_refl _) _⟩
              · have hqi : (q : Int) < (s.size : Int) := by omega
                have hix := fun W => run_idx hlt W
                have HD := hide (fun W => l1Digit_any (bt s q) W)
                have HL := hide (fun W => l1Letter_any (bt s q) W)
                rw [hL] at HL
                rw [hD] at HD
                obtain ⟨z, hz⟩ : ∃ z, bt s q = z := ⟨_, rfl⟩
                rw [hz] at hix HD HL
                clear hz hL hD
                by_cases h20 : 20 < q - i
                case pos =>
                  have h20i : (20 : Int) < (q : Int) - (i : Int) := by omega
                  have HE := hide (unhide HBAD h20)
                  go_wp2_with (first | (go_at_call 115; refine (unhide HL _).mono ?_; rintro e' w1 ⟨rfl, hw⟩; obtain rfl := hw.symm) | (go_at_call 116; refine (unhide HD _).mono ?_; rintro e' w1 ⟨rfl, hw⟩; obtain rfl := hw.symm))
                  refine bodyPost_ret (v := gotV (bad 1)) (by simp [results, Tryz.results89, go_sem, q0, q1, q2, q3, q4, q5, gotV, bad]) rfl ?_
                  exact ⟨by rw [unhide HE], (((((((unhide HBQ)).setCell (Nat.le_refl _) _).setCell (Nat.le_refl _) _).setCell (Nat.le_refl _) _).setCell (Nat.le_refl _) _).setCell (Nat.le_refl _) _).setCell (Nat.le_refl _) _⟩
                case neg =>
                  have h20i : ¬ (20 : Int) < (q : Int) - (i : Int) := by omega
                  have HE := hide (unhide HTOK h20)
                  go_wp2_with (first | (go_at_call 115; refine (unhide HL _).mono ?_; rintro e' w1 ⟨rfl, hw⟩; obtain rfl := hw.symm) | (go_at_call 116; refine (unhide HD _).mono ?_; rintro e' w1 ⟨rfl, hw⟩; obtain rfl := hw.symm))
                  refine bodyPost_ret (v := gotV ⟨3, 0, x, q, 0⟩) (by simp [results, Tryz.results89, go_sem, q0, q1, q2, q3, q4, q5, gotV]) rfl ?_
                  exact ⟨by rw [unhide HE], (((((((unhide HBQ)).setCell (Nat.le_refl _) _).setCell (Nat.le_refl _) _).setCell (Nat.le_refl _) _).setCell (Nat.le_refl _) _).setCell (Nat.le_refl _) _).setCell (Nat.le_refl _) _⟩
        | false => exact absurd ⟨unhide HDF, unhide HHF, h39, hl⟩ (unhide HNS)

end Go.Proofs.YtinndpnilmmmjaaGreatDoor
namespace Go.Proofs.YtinndpnilmmmjaaGreatDoor
open Go.RowKit

theorem text_at {s : ByteArray} : ∀ (F k : Nat) (out : List UInt8), k ≤ s.size → (textTok s F k out).c = 0 → k < (textTok s F k out).e ∧ (textTok s F k out).e ≤ s.size
  | 0, k, out, _, h => by simp [textTok, bad] at h
  | F + 1, k, out, hk, h => by
    rw [textTok] at h ⊢
    by_cases h1 : k < s.size
    · rw [if_pos h1] at h ⊢
      by_cases h2 : bt s k = 39
      · rw [if_pos h2] at h ⊢
        by_cases h3 : quotes s k = true
        · rw [if_pos h3] at h ⊢
          have hq := of_decide_eq_true h3
          have := text_at F (k + 2) _ (by omega) h
          omega
        · rw [if_neg h3]
          show k < k + 1 ∧ k + 1 ≤ s.size
          omega
      · rw [if_neg h2] at h ⊢
        by_cases h3 : (runeAt s k).2 = 0 ∨ bt s k = 10
        · rw [if_pos h3] at h; simp [bad] at h
        · rw [if_neg h3] at h ⊢
          have hr := rune_end h1
          have := text_at F (k + (runeAt s k).2) _ hr.1 h
          omega
    · rw [if_neg h1] at h; simp [bad] at h

theorem tok_end {s : ByteArray} {k : Nat} (hk : k < s.size) (h : (tokAt s k).c = 0) : k < (tokAt s k).e ∧ (tokAt s k).e ≤ s.size := by
  unfold tokAt at h ⊢
  by_cases h1 : isD (bt s k) = true ∨ high s k = true
  · rw [if_pos h1] at h ⊢
    obtain ⟨f, hf⟩ : ∃ f, (if high s k = true then k + 2 else k) = f := ⟨_, rfl⟩
    have hfk : k ≤ f ∧ f ≤ s.size := by
      rw [← hf]
      split
      · rename_i h'; have := of_decide_eq_true h'; omega
      · omega
    obtain ⟨e, he⟩ : ∃ e, endOf isD s f = e := ⟨_, rfl⟩
    by_cases hb : e = f ∨ (e < s.size ∧ isL (bt s e) = true) ∨ high s e = true
    · rw [numTok_bad hf he hb] at h; simp [bad] at h
    · by_cases hv : 1000000000000000 < decV s f (e - f)
      · rw [numTok_big hf he hb hv] at h; simp [bad] at h
      · rw [numTok_ok hf he hb hv]
        show k < e ∧ e ≤ s.size
        have h2 := endOf_ge isD s f
        have h3 := endOf_le isD s f hfk.2
        rw [he] at h2 h3
        have : e ≠ f := fun x => hb (.inl x)
        omega
  · rw [if_neg h1] at h ⊢
    by_cases h2 : bt s k = 39
    · rw [if_pos h2] at h ⊢
      have := text_at (s.size - k) (k + 1) [] (by omega) h
      omega
    · rw [if_neg h2] at h ⊢
      by_cases h3 : isL (bt s k) = true
      · rw [if_pos h3] at h ⊢
        unfold nameTok at h ⊢
        by_cases h4 : 20 < endOf isLD s k - k
        · rw [if_pos h4] at h; simp [bad] at h
        · rw [if_neg h4]
          show k < endOf isLD s k ∧ endOf isLD s k ≤ s.size
          have h5 := endOf_go (p := isLD) hk (by unfold isLD; rw [h3]; rfl)
          have h6 := endOf_ge isLD s (k + 1)
          have h7 := endOf_le isLD s k (by omega)
          omega
      · rw [if_neg h3] at h ⊢
        unfold signTok at h ⊢
        by_cases h4 : 0 < (runeAt s k).2 ∧ (runeAt s k).1 ∈ signCs
        · rw [if_pos h4]
          have hr := rune_end hk
          show k < k + (runeAt s k).2 ∧ k + (runeAt s k).2 ≤ s.size
          omega
        · rw [if_neg h4] at h; simp [bad] at h

/-- A token's cells. -/
def tokCells (t : Tok) : List Value := [.int .i64 t.k, .int .i64 t.n, .string t.t, .int .i64 (t.p : Nat)]

theorem info_tok : (Tryz.prog.info? 64).map (fun i => (i.zero, i.size, i.bytes)) = some (some (.agg #[.int .i64 0, .int .i64 0, .string ⟨#[]⟩, .int .i64 0]), 4, 40) := by kernel_rfl

/-- The slice (a, n, _) reads as these tokens. -/
structure RowT (w : World) (a : Option Addr) (n : Nat) (ts : List Tok) : Prop where
  len : ts.length = n
  at_ : n = 0 ∨ ∃ b off, a = some ⟨b, off, none⟩ ∧ b < w.heap.size ∧ ∀ i, i < 4 * n → w.cell? ⟨b, off + i, none⟩ = (ts.flatMap tokCells)[i]?

/-- An own list of tokens that grows, made in the world Q. -/
structure GrowT (Q w : World) (g cap j : Nat) (ts : List Tok) : Prop where
  own : w.ownsRow Q.heap.size 64 4 (.slice (some ⟨g, 0, none⟩) j cap) j (ts.flatMap tokCells)
  low : Below Q.heap.size Q w

theorem cells_len (ts : List Tok) : (ts.flatMap tokCells).length = 4 * ts.length := by
  induction ts with
  | nil => rfl
  | cons t r ih => rw [List.flatMap_cons, List.length_append, ih]; simp [tokCells]; omega

theorem GrowT.start (Q : World) : GrowT Q (Q.alloc (.cells #[] 64)) Q.heap.size 0 0 [] := by
  refine ⟨⟨by simp, .inr ⟨Q.heap.size, 0, #[], rfl, Nat.le_refl _, ?_, by simp, by unfold maxLen; omega, by simp, by simp⟩⟩, (Below.refl _ _).alloc (Nat.le_refl _) _⟩
  show (Q.heap.push _)[Q.heap.size]? = _
  simp

theorem GrowT.below {Q w w' : World} {g cap j : Nat} {ts : List Tok} (h : GrowT Q w g cap j ts) (hb : Below w.heap.size w w') : GrowT Q w' g cap j ts := ⟨ownsB_below h.own (Nat.le_refl _) hb, h.low.trans (hb.mono h.low.size)⟩

theorem GrowT.len {Q w : World} {g cap j : Nat} {ts : List Tok} (h : GrowT Q w g cap j ts) : ts.length = j := by
  have := h.own.1
  rw [cells_len] at this
  omega

theorem GrowT.ge {Q w : World} {g cap j : Nat} {ts : List Tok} (h : GrowT Q w g cap j ts) : Q.heap.size ≤ g := by
  rcases h.own.2 with ⟨h', _⟩ | ⟨g', cap', cur, h', hb, _⟩
  · simp at h'
  · cases h'; exact hb

theorem GrowT.push {Q w w1 : World} {g cap j g' cap' : Nat} {ts : List Tok} {t : Tok} (h : GrowT Q w g cap j ts)
    (hown : w1.ownsRow Q.heap.size 64 4 (.slice (some ⟨g', 0, none⟩) (j + 1) cap') (j + 1) (ts.flatMap tokCells ++ tokCells t)) (hg : w.grownBy w1 (Value.ownBlock (.slice (some ⟨g, 0, none⟩) j cap))) :
    GrowT Q w1 g' cap' (j + 1) (ts ++ [t]) := by
  have hge := h.ge
  refine ⟨by rw [List.flatMap_append]; simpa using hown, ⟨hg.os.trans h.low.os, hg.tape.trans h.low.tape, hg.output.trans h.low.output, Nat.le_trans h.low.size hg.size, fun k hk => (hg.block k (by have := h.low.size; omega) (fun e => by have := (Option.some.inj e : k = g); omega)).trans (h.low.block k hk)⟩⟩

theorem GrowT.row {Q w : World} {g cap j : Nat} {ts : List Tok} (h : GrowT Q w g cap j ts) : RowT w (some ⟨g, 0, none⟩) j ts := by
  refine ⟨h.len, ?_⟩
  rcases h.own.2 with ⟨h', _⟩ | ⟨g', cap', cur, h', _, hg, _, _, hcs, ht⟩
  · simp at h'
  · cases h'
    refine .inr ⟨g, 0, rfl, lt_of_block hg, fun i hi => ?_⟩
    have e : cur.toList[i]? = (ts.flatMap tokCells)[i]? := by
      rw [← ht, List.getElem?_take, if_pos (by omega)]
    simpa [World.cell?, hg] using e

/-- What Lex gives. -/
def GivesLex (w : World) (r : List Tok × Int × Nat) (e : Ending) (w' : World) : Prop := ∃ g n cap, e = .returned (.tuple #[.slice (some ⟨g, 0, none⟩) n cap, .int .i64 r.2.1, .int .i64 (r.2.2 : Nat)]) ∧ RowT w' (some ⟨g, 0, none⟩) n r.1 ∧ Below w.heap.size w w'

theorem lex_stop {s : ByteArray} {F k : Nat} {acc : List Tok} (h : ¬ (k < s.size ∧ remark s k = false)) : lexR s F k acc = (acc, 0, 0) := by
  cases F with
  | zero => rfl
  | succ F => rw [lexR, if_neg h]

theorem lex_blank {s : ByteArray} {F k : Nat} {acc : List Tok} (hF : s.size - k < F) (h : k < s.size ∧ remark s k = false) (hb : bt s k = 32 ∨ bt s k = 9) : lexR s F k acc = lexR s (F - 1) (k + 1) acc := by
  cases F with
  | zero => omega
  | succ F => rw [lexR, if_pos h, if_pos hb]; rfl

theorem lex_bad {s : ByteArray} {F k : Nat} {acc : List Tok} (hF : s.size - k < F) (h : k < s.size ∧ remark s k = false) (hb : ¬ (bt s k = 32 ∨ bt s k = 9)) (hc : (tokAt s k).c ≠ 0) : lexR s F k acc = ([], (tokAt s k).c, k) := by
  cases F with
  | zero => omega
  | succ F => rw [lexR, if_pos h, if_neg hb, if_pos hc]

theorem lex_tok {s : ByteArray} {F k : Nat} {acc : List Tok} (hF : s.size - k < F) (h : k < s.size ∧ remark s k = false) (hb : ¬ (bt s k = 32 ∨ bt s k = 9)) (hc : (tokAt s k).c = 0) : lexR s F k acc = lexR s (F - 1) (tokAt s k).e (acc ++ [⟨(tokAt s k).k, (tokAt s k).n, (tokAt s k).t, k⟩]) := by
  cases F with
  | zero => omega
  | succ F => rw [lexR, if_pos h, if_neg hb, if_neg (by rw [hc]; decide)]; rfl

end Go.Proofs.YtinndpnilmmmjaaGreatDoor
namespace Go.Proofs.YtinndpnilmmmjaaGreatDoor
open Go.RowKit

theorem lexR_len {s : ByteArray} : ∀ (F i : Nat) (acc : List Tok), i ≤ s.size → (lexR s F i acc).1.length ≤ acc.length + (s.size - i)
  | 0, i, acc, _ => by rw [lexR]; show acc.length ≤ _; omega
  | F + 1, i, acc, hi => by
    rw [lexR]
    by_cases h : i < s.size ∧ remark s i = false
    · rw [if_pos h]
      by_cases hb : bt s i = 32 ∨ bt s i = 9
      · rw [if_pos hb]
        have := lexR_len (s := s) F (i + 1) acc (by omega)
        omega
      · rw [if_neg hb]
        by_cases hc : (tokAt s i).c ≠ 0
        · rw [if_pos hc]; show 0 ≤ _; omega
        · rw [if_neg hc]
          have ht := tok_end h.1 (Classical.not_not.1 hc)
          have := lexR_len F (tokAt s i).e (acc ++ [⟨(tokAt s i).k, (tokAt s i).n, (tokAt s i).t, i⟩]) ht.2
          rw [List.length_append] at this
          simp only [List.length_cons, List.length_nil] at this
          omega
    · rw [if_neg h]; show acc.length ≤ _; omega

theorem lexT_len (s : ByteArray) : (lexT s).1.length ≤ s.size := by
  unfold lexT
  split
  · exact Nat.zero_le _
  · have := lexR_len (s := s) (s.size + 1) 0 [] (Nat.zero_le _)
    simpa using this

end Go.Proofs.YtinndpnilmmmjaaGreatDoor
namespace Go.Proofs.YtinndpnilmmmjaaGreatDoor
open Go.RowKit

/-- A text between its marks. -/
def quoteL (l : List UInt8) : List UInt8 := 39 :: (l.flatMap (fun b => if b = 39 then [39, 39] else [b]) ++ [39])

/-- How a token is written. -/
def spellT (k n : Int) (t : ByteArray) : ByteArray := if k = 1 then bstr (numT n) else if k = 2 then ⟨(quoteL t.data.toList).toArray⟩ else t

/-- What is read again of a token's text is the token. -/
def readsBack (k n : Int) (t : ByteArray) (r : List Tok × Int × Nat) : Prop := r.2.1 = 0 ∧ ∃ y, r.1 = [y] ∧ y.k = k ∧ y.n = n ∧ y.t = t

theorem lexR_pre {s : ByteArray} : ∀ (F i : Nat) (acc : List Tok), i ≤ s.size → (lexR s F i acc).2.1 = 0 → ∃ more, (lexR s F i acc).1 = acc ++ more ∧ ∀ x ∈ more, x.p < s.size ∧ (tokAt s x.p).c = 0 ∧ x = ⟨(tokAt s x.p).k, (tokAt s x.p).n, (tokAt s x.p).t, x.p⟩
  | 0, i, acc, _, _ => ⟨[], by rw [lexR]; simp, fun x hx => by cases hx⟩
  | F + 1, i, acc, hi, hc => by
    rw [lexR] at hc ⊢
    by_cases h : i < s.size ∧ remark s i = false
    · rw [if_pos h] at hc ⊢
      by_cases hb : bt s i = 32 ∨ bt s i = 9
      · rw [if_pos hb] at hc ⊢
        exact lexR_pre F (i + 1) acc (by omega) hc
      · rw [if_neg hb] at hc ⊢
        by_cases hk : (tokAt s i).c ≠ 0
        · rw [if_pos hk] at hc
          exact absurd hc hk
        · rw [if_neg hk] at hc ⊢
          have hk0 := Classical.not_not.1 hk
          have ht := tok_end h.1 hk0
          obtain ⟨more, hm, hx⟩ := lexR_pre F (tokAt s i).e _ ht.2 hc
          refine ⟨⟨(tokAt s i).k, (tokAt s i).n, (tokAt s i).t, i⟩ :: more, by rw [hm, List.append_assoc]; rfl, fun x hxm => ?_⟩
          rcases List.mem_cons.1 hxm with e | e
          · subst e
            exact ⟨h.1, hk0, rfl⟩
          · exact hx x e
    · rw [if_neg h]
      exact ⟨[], by simp, fun x hx => by cases hx⟩

/-- Where a token stands at a text's beginning it is read there. -/
theorem first_zero {s : ByteArray} {F : Nat} {y : Tok} (h0 : 0 < s.size) (hr : remark s 0 = false) (hb : ¬ (bt s 0 = 32 ∨ bt s 0 = 9)) (hc : (lexR s (F + 1) 0 []).2.1 = 0) (hy : (lexR s (F + 1) 0 []).1 = [y]) : y.p = 0 := by
  rw [lexR, if_pos ⟨h0, hr⟩, if_neg hb] at hc hy
  by_cases hk : (tokAt s 0).c ≠ 0
  · rw [if_pos hk] at hc
    exact absurd hc hk
  · rw [if_neg hk] at hc hy
    have ht := tok_end h0 (Classical.not_not.1 hk)
    obtain ⟨more, hm, _⟩ := lexR_pre F (tokAt s 0).e _ ht.2 hc
    rw [hm] at hy
    have := congrArg List.head? hy
    simp at this
    rw [← this]

/-- What a token's text is that is no number and no text. -/
theorem tok_piece {s : ByteArray} {i : Nat} (hi : i < s.size) (hc : (tokAt s i).c = 0) (h1 : (tokAt s i).k ≠ 1) (h2 : (tokAt s i).k ≠ 2) : ∃ e, e ≤ s.size ∧ (tokAt s i).t = s.extract i e := by
  have he := tok_end hi hc
  refine ⟨(tokAt s i).e, he.2, ?_⟩
  unfold tokAt at hc h1 h2 ⊢
  by_cases c1 : isD (bt s i) = true ∨ high s i = true
  · rw [if_pos c1] at hc h1 ⊢
    exfalso
    obtain ⟨f, hf⟩ : ∃ f, (if high s i = true then i + 2 else i) = f := ⟨_, rfl⟩
    obtain ⟨e, he⟩ : ∃ e, endOf isD s f = e := ⟨_, rfl⟩
    by_cases hb : e = f ∨ (e < s.size ∧ isL (bt s e) = true) ∨ high s e = true
    · rw [numTok_bad hf he hb] at hc; simp [bad] at hc
    · by_cases hv : 1000000000000000 < decV s f (e - f)
      · rw [numTok_big hf he hb hv] at hc; simp [bad] at hc
      · rw [numTok_ok hf he hb hv] at h1
        exact h1 rfl
  · rw [if_neg c1] at hc h1 h2 ⊢
    by_cases c2 : bt s i = 39
    · rw [if_pos c2] at hc h2 ⊢
      exfalso
      have key : ∀ (f p : Nat) (out : List UInt8), (textTok s f p out).c = 0 → (textTok s f p out).k = 2 := by
        intro f
        induction f with
        | zero => intro p out h; rw [textTok] at h; simp [bad] at h
        | succ f ih =>
          intro p out h
          rw [textTok] at h ⊢
          by_cases d1 : p < s.size
          · rw [if_pos d1] at h ⊢
            by_cases d2 : bt s p = 39
            · rw [if_pos d2] at h ⊢
              by_cases d3 : quotes s p = true
              · rw [if_pos d3] at h ⊢; exact ih _ _ h
              · rw [if_neg d3]
            · rw [if_neg d2] at h ⊢
              by_cases d3 : (runeAt s p).2 = 0 ∨ bt s p = 10
              · rw [if_pos d3] at h; simp [bad] at h
              · rw [if_neg d3] at h ⊢; exact ih _ _ h
          · rw [if_neg d1] at h; simp [bad] at h
      exact h2 (key _ _ _ hc)
    · rw [if_neg c2] at hc ⊢
      by_cases c3 : isL (bt s i) = true
      · rw [if_pos c3] at hc ⊢
        unfold nameTok at hc ⊢
        by_cases c4 : 20 < endOf isLD s i - i
        · rw [if_pos c4] at hc; simp [bad] at hc
        · rw [if_neg c4]
      · rw [if_neg c3] at hc ⊢
        unfold signTok at hc ⊢
        by_cases c4 : 0 < (runeAt s i).2 ∧ (runeAt s i).1 ∈ signCs
        · rw [if_pos c4]
        · rw [if_neg c4] at hc; simp [bad] at hc

theorem decZ_digit : ∀ (k m : Nat), m < 10 ^ k → ∀ z ∈ decZ m, 48 ≤ z ∧ z ≤ 57
  | 0, m, h, z, hz => by
    have : m = 0 := by simpa using h
    subst this
    rw [decZ_small (by omega)] at hz
    simp at hz
    omega
  | k + 1, m, h, z, hz => by
    by_cases h10 : m < 10
    · rw [decZ_small h10] at hz
      simp at hz
      omega
    · rw [decZ_big h10] at hz
      rcases List.mem_append.1 hz with e | e
      · exact decZ_digit k (m / 10) (by rw [Nat.pow_succ] at h; omega) z e
      · simp at e
        omega

theorem decV_dec {s : ByteArray} {f : Nat} : ∀ (k m : Nat), m < 10 ^ k → (∀ j, j < (decZ m).length → (bt s (f + j) : Int) = (decZ m).getD j 0) → decV s f (decZ m).length = m
  | 0, m, h, hb => by
    have : m = 0 := by simpa using h
    subst this
    have h0 := hb 0 (by rw [decZ_small (by omega)]; simp)
    rw [decZ_small (by omega)] at h0 ⊢
    simp at h0
    show 0 * 10 + (bt s (f + 0) - 48) = 0
    rw [Nat.add_zero]
    omega
  | k + 1, m, h, hb => by
    by_cases h10 : m < 10
    · have h0 := hb 0 (by rw [decZ_small h10]; simp)
      rw [decZ_small h10] at h0 ⊢
      simp at h0
      show 0 * 10 + (bt s (f + 0) - 48) = m
      rw [Nat.add_zero]
      omega
    · have hd := decZ_big h10
      have hl : (decZ m).length = (decZ (m / 10)).length + 1 := by rw [hd]; simp
      have ih := decV_dec k (m / 10) (by rw [Nat.pow_succ] at h; omega) (fun j hj => by
        rw [hb j (by omega), hd]
        simp only [List.getD_eq_getElem?_getD]
        rw [List.getElem?_append_left hj])
      have hlast := hb (decZ (m / 10)).length (by omega)
      rw [hd] at hlast
      simp only [List.getD_eq_getElem?_getD] at hlast
      rw [List.getElem?_append_right (Nat.le_refl _), Nat.sub_self] at hlast
      simp at hlast
      rw [hl, decV, ih]
      omega

theorem bstr_at {l : List Int} (hl : ∀ z ∈ l, 0 ≤ z ∧ z < 256) {j : Nat} (hj : j < l.length) : (bt (bstr l) j : Int) = l.getD j 0 := by
  rw [bt_data (by rw [bstr_size]; exact hj)]
  unfold bstr
  have h := hl l[j] (List.getElem_mem hj)
  simp only [List.getD_eq_getElem?_getD, List.getElem?_map, List.getElem?_eq_getElem hj, Option.map_some, Option.getD_some]
  rw [Nat.toUInt8, UInt8.toNat_ofNat']
  omega

/-- The number's text, byte for byte. -/
theorem numT_parts (n : Int) (hn : n.natAbs < 10 ^ 19) : (numT n).length ≤ 21 ∧ (∀ z ∈ numT n, 0 ≤ z ∧ z < 256) ∧
    ∃ f, (f = if n < 0 then 2 else 0) ∧ (numT n).length = f + (decZ n.natAbs).length ∧ (∀ j, j < (decZ n.natAbs).length → (bt (bstr (numT n)) (f + j) : Int) = (decZ n.natAbs).getD j 0) ∧ (high (bstr (numT n)) 0 = true ↔ n < 0) := by
  have hd := decZ_digit 19 n.natAbs hn
  have hp := decZ_pos n.natAbs
  have hl := decZ_le 18 n.natAbs hn
  have hz : ∀ z ∈ numT n, 0 ≤ z ∧ z < 256 := by
    intro z hz
    unfold numT at hz
    rcases List.mem_append.1 hz with e | e
    · split at e
      · simp at e; omega
      · cases e
    · have := hd z e; omega
  refine ⟨?_, hz, _, rfl, ?_, ?_, ?_⟩
  · unfold numT; split <;> simp <;> omega
  · unfold numT; split <;> simp <;> omega
  · intro j hj
    rw [bstr_at hz (by unfold numT; split <;> simp <;> omega)]
    unfold numT
    split
    · simp only [List.getD_eq_getElem?_getD]
      have e2 : 2 + j - ([194, 175] : List Int).length = j := by simp
      rw [List.getElem?_append_right (by simp), e2]
    · simp
  · by_cases h0 : n < 0
    · refine ⟨fun _ => h0, fun _ => ?_⟩
      have e : numT n = 194 :: 175 :: decZ n.natAbs := by unfold numT; rw [if_pos h0]; rfl
      have a := bstr_at hz (j := 0) (by rw [e]; simp)
      have b := bstr_at hz (j := 1) (by rw [e]; simp)
      rw [e] at a b
      simp at a b
      unfold high
      rw [e]
      exact decide_eq_true ⟨by rw [bstr_size]; simp, by omega, by show bt _ 1 = 175; omega⟩
    · refine ⟨fun h => ?_, fun h => absurd h h0⟩
      have e : numT n = decZ n.natAbs := by unfold numT; rw [if_neg h0]; rfl
      have a := bstr_at hz (j := 0) (by rw [e]; omega)
      unfold high at h
      have h2 := (of_decide_eq_true h).2.1
      rw [e] at a h2
      have h3 := hd _ (by
        have : (decZ n.natAbs).getD 0 0 ∈ decZ n.natAbs := by
          rw [List.getD_eq_getElem?_getD, List.getElem?_eq_getElem (by omega)]
          exact List.getElem_mem _
        exact this)
      omega

/-- A number's text begins with no blank and no comment. -/
theorem num_starts (n : Int) (hn : n.natAbs < 10 ^ 19) : 0 < (bstr (numT n)).size ∧ remark (bstr (numT n)) 0 = false ∧ ¬ (bt (bstr (numT n)) 0 = 32 ∨ bt (bstr (numT n)) 0 = 9) ∧ (isD (bt (bstr (numT n)) 0) = true ∨ high (bstr (numT n)) 0 = true) := by
  obtain ⟨hl, hz, f, hf, hlen, hb, hh⟩ := numT_parts n hn
  have hp := decZ_pos n.natAbs
  have hd := decZ_digit 19 n.natAbs hn
  have hfirst : (bt (bstr (numT n)) 0 = 194 ∧ high (bstr (numT n)) 0 = true) ∨ (48 ≤ bt (bstr (numT n)) 0 ∧ bt (bstr (numT n)) 0 ≤ 57) := by
    by_cases h0 : n < 0
    · left
      have h1 := hh.2 h0
      have h2 := h1
      unfold high at h2
      exact ⟨(of_decide_eq_true h2).2.1, h1⟩
    · right
      rw [if_neg h0] at hf
      subst hf
      have := hb 0 (by omega)
      have h3 := hd _ (by
        have : (decZ n.natAbs).getD 0 0 ∈ decZ n.natAbs := by
          rw [List.getD_eq_getElem?_getD, List.getElem?_eq_getElem (by omega)]
          exact List.getElem_mem _
        exact this)
      rw [Nat.zero_add] at this
      omega
  refine ⟨by rw [bstr_size]; omega, ?_, by omega, ?_⟩
  · unfold remark
    exact decide_eq_false (fun h => by omega)
  · rcases hfirst with h | h
    · exact .inr h.2
    · left; unfold isD; exact decide_eq_true h

/-- A number that is too great is not read again. -/
theorem num_big (n : Int) (hn : n.natAbs < 10 ^ 19) (hb : 1000000000000000 < n.natAbs) : (lexT (bstr (numT n))).2.1 = 7 := by
  obtain ⟨hs0, hrm, hbl, hst⟩ := num_starts n hn
  obtain ⟨hl, hz, f, hf, hlen, hbb, hh⟩ := numT_parts n hn
  have hp := decZ_pos n.natAbs
  have hd := decZ_digit 19 n.natAbs hn
  have hsz : (bstr (numT n)).size = f + (decZ n.natAbs).length := by rw [bstr_size]; exact hlen
  have hsz2 : (bstr (numT n)).size ≤ 21 := by rw [bstr_size]; exact hl
  generalize bstr (numT n) = x at *
  have hfx : (if high x 0 = true then 0 + 2 else 0) = f := by
    by_cases h0 : n < 0
    · rw [if_pos (hh.2 h0), hf, if_pos h0]
    · rw [if_neg (fun h => h0 (hh.1 h)), hf, if_neg h0]
  have hdig : ∀ j, j < (decZ n.natAbs).length → 48 ≤ bt x (f + j) ∧ bt x (f + j) ≤ 57 := fun j hj => by
    have h1 := hbb j hj
    have h2 := hd _ (by
      have : (decZ n.natAbs).getD j 0 ∈ decZ n.natAbs := by
        rw [List.getD_eq_getElem?_getD, List.getElem?_eq_getElem hj]
        exact List.getElem_mem _
      exact this)
    omega
  have he : endOf isD x f = x.size := by
    rw [hsz]
    refine endOf_is _ f (fun j hj => ⟨by omega, ?_⟩) (by omega)
    unfold isD
    exact decide_eq_true (hdig j hj)
  have hbad : ¬ (x.size = f ∨ (x.size < x.size ∧ isL (bt x x.size) = true) ∨ high x x.size = true) := by
    rintro (h | h | h)
    · omega
    · omega
    · unfold high at h; have := of_decide_eq_true h; omega
  have hv : decV x f (x.size - f) = n.natAbs := by
    rw [show x.size - f = (decZ n.natAbs).length by omega]
    exact decV_dec 19 _ hn hbb
  have ht : tokAt x 0 = bad 7 := by
    unfold tokAt
    rw [if_pos hst]
    exact numTok_big hfx he hbad (by omega)
  unfold lexT
  rw [if_neg (by omega), lexR, if_pos ⟨hs0, hrm⟩, if_neg hbl, ht]
  rfl

/-- Where a token's text gives the token again it is read at the text's beginning. -/
theorem back_zero {k n : Int} {t : ByteArray} {y : Tok} (hn : n.natAbs < 10 ^ 19) (hc : (lexT (spellT k n t)).2.1 = 0) (hy : (lexT (spellT k n t)).1 = [y]) (hk : y.k = k) (ht : y.t = t) : y.p = 0 := by
  unfold lexT at hc hy
  by_cases hs : 2000 < (spellT k n t).size
  · rw [if_pos hs] at hc; exact absurd hc (by decide)
  · rw [if_neg hs] at hc hy
    by_cases k1 : k = 1
    · have e : spellT k n t = bstr (numT n) := by unfold spellT; rw [if_pos k1]
      rw [e] at hc hy
      obtain ⟨h0, hr, hb, _⟩ := num_starts n hn
      exact first_zero h0 hr hb hc hy
    · by_cases k2 : k = 2
      · have e : spellT k n t = ⟨(quoteL t.data.toList).toArray⟩ := by unfold spellT; rw [if_neg k1, if_pos k2]
        have hb0 : bt (spellT k n t) 0 = 39 := by rw [e]; rfl
        have h0 : 0 < (spellT k n t).size := by rw [e]; simp [ByteArray.size, quoteL]
        exact first_zero h0 (by unfold remark; exact decide_eq_false (fun h => by omega)) (by omega) hc hy
      · have e : spellT k n t = t := by unfold spellT; rw [if_neg k1, if_neg k2]
        rw [e] at hc hy
        obtain ⟨more, hm, hx⟩ := lexR_pre (s := t) (t.size + 1) 0 [] (Nat.zero_le _) hc
        rw [hm, List.nil_append] at hy
        obtain ⟨hp, hpc, hyx⟩ := hx y (by rw [hy]; simp)
        have ek : (tokAt t y.p).k = k := (congrArg Tok.k hyx).symm.trans hk
        have et : (tokAt t y.p).t = t := (congrArg Tok.t hyx).symm.trans ht
        obtain ⟨e2, he2, hpe⟩ := tok_piece hp hpc (by rw [ek]; exact k1) (by rw [ek]; exact k2)
        have hsz := congrArg ByteArray.size (et.symm.trans hpe)
        rw [ByteArray.size_extract] at hsz
        omega

end Go.Proofs.YtinndpnilmmmjaaGreatDoor
namespace Go.Proofs.YtinndpnilmmmjaaGreatDoor
open Go.RowKit

theorem implDigit_any (v : Nat) (w : World) : Calls Tryz.prog 151 #[.int .i32 (v : Nat)] w fun e w' => e = .returned (.bool (isD v)) ∧ w' = w := by
  obtain ⟨r, hr⟩ : ∃ r, isD v = r := ⟨_, rfl⟩
  rw [hr]
  have HR : Hid (decide (48 ≤ v ∧ v ≤ 57) = r) := hr
  clear hr
  by_cases h1 : 48 ≤ v
  · have h1i : (48 : Int) ≤ (v : Int) := by omega
    go_enter Tryz.func151, Tryz.ntmps151
    go_wp2
    go_ret
    refine ⟨ret_bool ?_, rfl⟩
    rw [← unhide HR]
    by_cases h2 : v ≤ 57
    · rw [decide_eq_true (by omega), decide_eq_true ⟨h1, h2⟩]
    · rw [decide_eq_false (by omega), decide_eq_false (by omega)]
  · have h1i : ¬ (48 : Int) ≤ (v : Int) := by omega
    go_enter Tryz.func151, Tryz.ntmps151
    go_wp2
    go_ret
    refine ⟨ret_bool ?_, rfl⟩
    rw [← unhide HR, decide_eq_false (by omega)]

theorem implLetter_any (v : Nat) (w : World) : Calls Tryz.prog 154 #[.int .i32 (v : Nat)] w fun e w' => e = .returned (.bool (isL v)) ∧ w' = w := by
  obtain ⟨r, hr⟩ : ∃ r, isL v = r := ⟨_, rfl⟩
  rw [hr]
  have HR : Hid ((decide (97 ≤ v ∧ v ≤ 122) || decide (65 ≤ v ∧ v ≤ 90)) = r) := hr
  clear hr
  by_cases h1 : 65 ≤ v
  · have h1i : (65 : Int) ≤ (v : Int) := by omega
    by_cases h2 : v ≤ 90
    · have h2i : (v : Int) ≤ 90 := by omega
      go_enter Tryz.func154, Tryz.ntmps154
      go_wp2
      go_ret
      refine ⟨ret_bool ?_, rfl⟩
      rw [← unhide HR, decide_eq_false (by omega), decide_eq_true ⟨h1, h2⟩]
      rfl
    · have h2i : ¬ (v : Int) ≤ 90 := by omega
      by_cases h3 : 97 ≤ v
      · have h3i : (97 : Int) ≤ (v : Int) := by omega
        go_enter Tryz.func154, Tryz.ntmps154
        go_wp2
        go_ret
        refine ⟨ret_bool ?_, rfl⟩
        rw [← unhide HR]
        by_cases h4 : v ≤ 122
        · rw [decide_eq_true (by omega), decide_eq_true ⟨h3, h4⟩]; rfl
        · rw [decide_eq_false (by omega), decide_eq_false (by omega), decide_eq_false (by omega)]; rfl
      · have h3i : ¬ (97 : Int) ≤ (v : Int) := by omega
        go_enter Tryz.func154, Tryz.ntmps154
        go_wp2
        go_ret
        refine ⟨ret_bool ?_, rfl⟩
        rw [← unhide HR, decide_eq_false (by omega), decide_eq_false (by omega)]
        rfl
  · have h1i : ¬ (65 : Int) ≤ (v : Int) := by omega
    have h3i : ¬ (97 : Int) ≤ (v : Int) := by omega
    go_enter Tryz.func154, Tryz.ntmps154
    go_wp2
    go_ret
    refine ⟨ret_bool ?_, rfl⟩
    rw [← unhide HR, decide_eq_false (by omega), decide_eq_false (by omega)]
    rfl

theorem implLD_any (v : Nat) (w : World) : Calls Tryz.prog 189 #[.int .i32 (v : Nat)] w fun e w' => e = .returned (.bool (isLD v)) ∧ w' = w := by
  have HL := hide (implLetter_any v w)
  have HD := hide (implDigit_any v w)
  have HE : Hid (isLD v = (isL v || isD v)) := rfl
  cases hl : isL v with
  | true =>
    rw [hl] at HL HE
    go_enter Tryz.func189, Tryz.ntmps189
    go_wp2_with (go_at_call 154; refine (unhide HL).mono ?_; rintro e w1 ⟨rfl, hw⟩; obtain rfl := hw.symm)
    go_ret
    exact ⟨ret_bool (by rw [unhide HE]; rfl), rfl⟩
  | false =>
    rw [hl] at HL HE
    go_enter Tryz.func189, Tryz.ntmps189
    go_wp2_with (first | (go_at_call 154; refine (unhide HL).mono ?_; rintro e w1 ⟨rfl, hw⟩; obtain rfl := hw.symm) | (go_at_call 151; refine (unhide HD).mono ?_; rintro e w1 ⟨rfl, hw⟩; obtain rfl := hw.symm))
    go_ret
    exact ⟨ret_bool (by rw [unhide HE]; rfl), rfl⟩

theorem implBlank_any (v : Nat) (w : World) : Calls Tryz.prog 99 #[.int .i32 (v : Nat)] w fun e w' => e = .returned (.bool (decide (v = 32 ∨ v = 9))) ∧ w' = w := by
  obtain ⟨r, hr⟩ : ∃ r, decide (v = 32 ∨ v = 9) = r := ⟨_, rfl⟩
  rw [hr]
  have HR := hide hr
  clear hr
  by_cases h1 : v = 32
  · subst h1
    go_enter Tryz.func99, Tryz.ntmps99
    go_wp2
    go_ret
    exact ⟨ret_bool (by rw [← unhide HR]; rfl), rfl⟩
  · have h1i : ¬ (v : Int) = 32 := by omega
    go_enter Tryz.func99, Tryz.ntmps99
    go_wp2
    go_ret
    refine ⟨ret_bool ?_, rfl⟩
    rw [← unhide HR]
    by_cases h2 : v = 9
    · subst h2; rfl
    · rw [decide_eq_false (show ¬ (v = 32 ∨ v = 9) by omega)]
      simp
      omega

/-- Where the characters of a text no longer belong. -/
def strTo (p : Nat → Bool) (s : ByteArray) : Nat → Nat → Nat
  | 0, _ => s.size
  | f + 1, i => if i < s.size then (if p (Utf8.decode s i).1 = true then strTo p s f (i + (Utf8.decode s i).2) else i) else s.size

def stretchN (p : Nat → Bool) (s : ByteArray) : Nat := strTo p s (s.size + 1) 0

set_option maxRecDepth 20000 in
set_option maxHeartbeats 2000000 in
theorem stretch_any (g : Nat) (eg : ∀ args w, (callFunc g args).run Tryz.prog w = .ok (.enter g args) w) (p : Nat → Bool) (hp : ∀ v W, Calls Tryz.prog g #[.int .i32 ((v : Nat) : Int)] W fun e w' => e = .returned (.bool (p v)) ∧ w' = W) (s : ByteArray) (w : World) (hs : s.size ≤ 17592186044416) :
    Calls Tryz.prog 183 #[.string s, .func (.func g) #[] #[]] w fun e w' => e = .returned (.int .i64 (stretchN p s : Nat)) ∧ Below w.heap.size w w' := by
  have HP := hide hp
  clear hp
  obtain ⟨tgt, htgt⟩ : ∃ t, strTo p s (s.size + 1) 0 = t := ⟨_, rfl⟩
  have e : stretchN p s = tgt := htgt
  rw [e]
  have HT := hide htgt
  clear e htgt
  go_enter Tryz.func183, Tryz.ntmps183
  go_wp2_with fail
  go_loopw [5] (fun _ w' => ∃ (pos F : Nat), w' = w.iter s pos ∧ s.size - pos < F ∧ Hid (strTo p s F pos = tgt)) (fun _ w' => s.size - w'.iterPos w.heap.size)
  case atStart => exact ⟨0, s.size + 1, rfl, by omega, HT⟩
  case round =>
    obtain ⟨pos, F, rfl, hF, HK⟩ := hrel
    obtain ⟨F', rfl⟩ : ∃ f, F = f + 1 := ⟨F - 1, by omega⟩
    by_cases hlt : pos < s.size
    · have hnx : ∀ ty, (Instr.next (.pointer (some ⟨w.heap.size, 0, none⟩)) true ty).run Tryz.prog (w.iter s pos) = _ := fun ty => run_next_any w s pos ty hlt
      have hwd := Lib.decode_width_pos s pos hlt
      have HK2 : Hid ((if p (Utf8.decode s pos).1 = true then strTo p s F' (pos + (Utf8.decode s pos).2) else pos) = tgt) := by
        have := unhide HK
        rw [strTo, if_pos hlt] at this
        exact this
      have HC := hide (fun W => unhide HP (Utf8.decode s pos).1 W)
      obtain ⟨v, hv⟩ : ∃ v, (Utf8.decode s pos).1 = v := ⟨_, rfl⟩
      obtain ⟨wd, hw⟩ : ∃ n, (Utf8.decode s pos).2 = n := ⟨_, rfl⟩
      rw [hv, hw] at hnx HK2
      rw [hv] at HC
      rw [hw] at hwd
      clear HK hv hw
      cases hq : p v with
      | true =>
        rw [hq] at HC HK2
        rw [if_pos rfl] at HK2
        go_wp2_with (go_at_fn g; refine (unhide HC _).mono ?_; rintro e w1 ⟨rfl, hw⟩; obtain rfl := hw.symm)
        go_roundw
        case rel => exact ⟨pos + wd, F', rfl, by omega, HK2⟩
        case measure => simp; omega
      | false =>
        rw [hq] at HC HK2
        rw [if_neg (by decide)] at HK2
        go_wp2_with (go_at_fn g; refine (unhide HC _).mono ?_; rintro e w1 ⟨rfl, hw⟩; obtain rfl := hw.symm)
        go_ret
        exact ⟨by rw [← unhide HK2]; rfl, (Below.refl _ _).alloc (Nat.le_refl _) _⟩
    · have hnx : ∀ ty, (Instr.next (.pointer (some ⟨w.heap.size, 0, none⟩)) true ty).run Tryz.prog (w.iter s pos) = _ := fun ty => run_next_end w s pos ty hlt
      have HK2 : Hid (s.size = tgt) := by
        have := unhide HK
        rw [strTo, if_neg hlt] at this
        exact this
      clear HK
      go_wp2_with fail
      go_ret
      exact ⟨by rw [← unhide HK2]; rfl, (Below.refl _ _).alloc (Nat.le_refl _) _⟩

end Go.Proofs.YtinndpnilmmmjaaGreatDoor
namespace Go.Proofs.YtinndpnilmmmjaaGreatDoor
open Go

/-- The end of a text from place i on. -/
theorem tail_size (s : ByteArray) (i : Nat) : (s.extract i s.size).size = s.size - i := by
  rw [Lib.size_eq, sub_list, List.length_take, List.length_drop, ← Lib.size_eq]; omega

theorem tail_bt {s : ByteArray} {i j : Nat} (h : i + j < s.size) : bt (s.extract i s.size) j = bt s (i + j) := by
  have h1 : j < (s.extract i s.size).size := by rw [tail_size]; omega
  rw [bt_data h1, bt_data h, sub_list]
  simp only [List.getD_eq_getElem?_getD, List.getElem?_take, List.getElem?_drop]
  rw [if_pos (by omega)]

theorem tail_tl (s : ByteArray) (i j : Nat) : tl (s.extract i s.size) j = tl s (i + j) := by
  unfold tl
  by_cases h : i + j < s.size
  · rw [tail_bt h, tail_size]
    congr 1
    exact propext ⟨fun ⟨a, b⟩ => ⟨by omega, b⟩, fun ⟨a, b⟩ => ⟨by omega, b⟩⟩
  · rw [decide_eq_false (by rw [tail_size]; omega), decide_eq_false (by omega)]

/-- A character is read in the rest of a text as in the text. -/
theorem tail_decode {s : ByteArray} {i j : Nat} (h : i + j < s.size) : Utf8.decode (s.extract i s.size) j = Utf8.decode s (i + j) := by
  rw [decode_is, decode_is]
  have t1 : tl (s.extract i s.size) (j + 1) = tl s (i + j + 1) := by rw [tail_tl]; rfl
  have t2 : tl (s.extract i s.size) (j + 2) = tl s (i + j + 2) := by rw [tail_tl]; rfl
  have t3 : tl (s.extract i s.size) (j + 3) = tl s (i + j + 3) := by rw [tail_tl]; rfl
  have b : ∀ {k}, tl s (i + j + k) = true → bt (s.extract i s.size) (j + k) = bt s (i + j + k) := fun {k} hk => by
    have := (tl_bd hk).1
    rw [tail_bt (by omega), ← Nat.add_assoc]
  rw [tail_bt h, t1, t2, t3]
  by_cases c0 : bt s (i + j) < 128
  · rw [if_pos c0, if_pos c0]
  · rw [if_neg c0, if_neg c0]
    by_cases c1 : bt s (i + j) / 32 = 6 ∧ tl s (i + j + 1) = true
    · rw [if_pos c1, if_pos c1]
      have : v2 (s.extract i s.size) j = v2 s (i + j) := by unfold v2; rw [tail_bt h, b c1.2]
      rw [this]
    · rw [if_neg c1, if_neg c1]
      by_cases c2 : bt s (i + j) / 16 = 14 ∧ tl s (i + j + 1) = true ∧ tl s (i + j + 2) = true
      · rw [if_pos c2, if_pos c2]
        have : v3 (s.extract i s.size) j = v3 s (i + j) := by unfold v3; rw [tail_bt h, b c2.2.1, b c2.2.2]
        rw [this]
      · rw [if_neg c2, if_neg c2]
        by_cases c3 : bt s (i + j) / 8 = 30 ∧ tl s (i + j + 1) = true ∧ tl s (i + j + 2) = true ∧ tl s (i + j + 3) = true
        · rw [if_pos c3, if_pos c3]
          have : v4 (s.extract i s.size) j = v4 s (i + j) := by unfold v4; rw [tail_bt h, b c3.2.1, b c3.2.2.1, b c3.2.2.2]
          rw [this]
        · rw [if_neg c3, if_neg c3]

theorem decode_ge {s : ByteArray} {i : Nat} (h : ¬ bt s i < 128) : 128 ≤ (Utf8.decode s i).1 := by
  rw [decode_is, if_neg h]
  split
  · split
    · assumption
    · decide
  · split
    · split
      · rename_i h'; show 128 ≤ v3 s i; have := h'.1; omega
      · decide
    · split
      · split
        · rename_i h'; show 128 ≤ v4 s i; have := h'.1; omega
        · decide
      · decide

/-- Where only small characters belong, a stretch ends as the bytes say. -/
theorem strTo_end {p : Nat → Bool} (hp : ∀ v, p v = true → v < 128) {s : ByteArray} : ∀ (F i : Nat), s.size - i < F → i ≤ s.size → strTo p s F i = endOf p s i
  | 0, i, h, _ => by omega
  | F + 1, i, h, hi => by
    rw [strTo]
    by_cases h1 : i < s.size
    · rw [if_pos h1]
      by_cases h2 : bt s i < 128
      · have hd : Utf8.decode s i = (bt s i, 1) := by rw [decode_is, if_pos h2]
        rw [hd]
        by_cases h3 : p (bt s i) = true
        · rw [if_pos h3, endOf_go h1 h3]
          exact strTo_end hp F (i + 1) (by omega) (by omega)
        · rw [if_neg h3, endOf_stop (fun h => h3 h.2)]
      · have hge := decode_ge (s := s) (i := i) h2
        have h3 : ¬ p (Utf8.decode s i).1 = true := fun e => by have := hp _ e; omega
        have h4 : ¬ p (bt s i) = true := fun e => h2 (hp _ e)
        rw [if_neg h3, endOf_stop (fun h => h4 h.2)]
    · rw [if_neg h1, endOf_stop (fun h => h1 h.1)]
      omega

theorem isD_small (v : Nat) (h : isD v = true) : v < 128 := by unfold isD at h; have := of_decide_eq_true h; omega
theorem isL_small (v : Nat) (h : isL v = true) : v < 128 := by
  unfold isL at h
  rcases Bool.or_eq_true _ _ ▸ h with h | h <;> have := of_decide_eq_true h <;> omega
theorem isLD_small (v : Nat) (h : isLD v = true) : v < 128 := by
  unfold isLD at h
  rcases Bool.or_eq_true _ _ ▸ h with h | h
  · exact isL_small v h
  · exact isD_small v h

theorem endOf_tail {p : Nat → Bool} {s : ByteArray} {i : Nat} (hi : i ≤ s.size) : ∀ (d j : Nat), s.size - (i + j) = d → i + j ≤ s.size → endOf p (s.extract i s.size) j + i = endOf p s (i + j)
  | d, j, hd, hj => by
    by_cases h : i + j < s.size ∧ p (bt s (i + j)) = true
    · rw [endOf_go h.1 h.2, endOf_go (s := s.extract i s.size) (i := j) (by rw [tail_size]; omega) (by rw [tail_bt h.1]; exact h.2)]
      match d, hd with
      | 0, hd => omega
      | d + 1, hd => exact endOf_tail hi d (j + 1) (by omega) (by omega)
    · rw [endOf_stop h, endOf_stop (s := s.extract i s.size) (i := j) (fun h' => h (by
        have h1 : i + j < s.size := by have := h'.1; rw [tail_size] at this; omega
        exact ⟨h1, by rw [← tail_bt h1]; exact h'.2⟩))]
      omega

/-- A stretch of small characters at the rest of a text. -/
theorem stretch_tail {p : Nat → Bool} (hp : ∀ v, p v = true → v < 128) {s : ByteArray} {i : Nat} (hi : i ≤ s.size) : stretchN p (s.extract i s.size) + i = endOf p s i := by
  unfold stretchN
  rw [strTo_end hp _ 0 (by omega) (by omega)]
  exact endOf_tail hi _ 0 rfl hi

end Go.Proofs.YtinndpnilmmmjaaGreatDoor
namespace Go.Proofs.YtinndpnilmmmjaaGreatDoor
open Go.RowKit

/-- The number that digits spell. -/
def dv (acc : Nat) (l : List UInt8) : Nat := l.foldl (fun a c => a * 10 + (c.toNat - 48)) acc

theorem dv_ge : ∀ (l : List UInt8) (acc : Nat), acc ≤ dv acc l
  | [], _ => Nat.le_refl _
  | c :: r, acc => Nat.le_trans (by omega) (dv_ge r (acc * 10 + (c.toNat - 48)))

theorem uint_digits : ∀ (l : List UInt8) (acc : Nat), (∀ c ∈ l, isD c.toNat = true) → Lib.parseUint10 acc l = .ok (dv acc l) ∨ (Lib.parseUint10 acc l = .range ∧ 18446744073709551616 ≤ dv acc l)
  | [], _, _ => Or.inl rfl
  | c :: r, acc, h => by
    have hc : 48 ≤ c.toNat ∧ c.toNat ≤ 57 := of_decide_eq_true (h c List.mem_cons_self)
    have hge := dv_ge r (acc * 10 + (c.toNat - 48))
    have e : dv acc (c :: r) = dv (acc * 10 + (c.toNat - 48)) r := rfl
    rw [Lib.parseUint10, if_pos hc, e]
    split
    · exact Or.inr ⟨rfl, by omega⟩
    · split
      · exact Or.inr ⟨rfl, by omega⟩
      · exact uint_digits r _ fun x hx => h x (List.mem_cons_of_mem _ hx)

theorem atoi_digits (l : List UInt8) (h0 : l ≠ []) (h : ∀ c ∈ l, isD c.toNat = true) : Lib.atoiAll l = .ok ((dv 0 l : Nat) : Int) ∨ (Lib.atoiAll l = .range ∧ 9223372036854775808 ≤ dv 0 l) := by
  cases l with
  | nil => exact absurd rfl h0
  | cons c r =>
    have hc : 48 ≤ c.toNat ∧ c.toNat ≤ 57 := of_decide_eq_true (h c List.mem_cons_self)
    rw [Lib.atoiAll_plain c r (by omega) (by omega)]
    have hm : Lib.parseMag (c :: r) = Lib.parseUint10 0 (c :: r) := by unfold Lib.parseMag; rw [if_neg (by simp)]
    rw [hm]
    rcases uint_digits (c :: r) 0 h with e | ⟨e, hb⟩
    · rw [e]
      unfold Lib.signless
      by_cases hb : 9223372036854775808 ≤ dv 0 (c :: r)
      · exact Or.inr ⟨by simp [hb], hb⟩
      · exact Or.inl (by simp [hb])
    · rw [e]
      exact Or.inr ⟨rfl, by omega⟩

theorem take_data (t : ByteArray) (k : Nat) : (t.extract 0 k).data.toList = t.data.toList.take k := by
  rw [ByteArray.data_extract, Array.toList_extract]
  simp

theorem dv_take (t : ByteArray) : ∀ k, k ≤ t.size → dv 0 (t.data.toList.take k) = decV t 0 k
  | 0, _ => rfl
  | k + 1, h => by
    have hl : k < t.data.toList.length := by rw [← Lib.size_eq]; exact h
    rw [List.take_succ_eq_append_getElem hl, dv, List.foldl_append]
    show dv 0 (t.data.toList.take k) * 10 + ((t.data.toList[k]).toNat - 48) = _
    have eb : bt t k = (t.data.toList[k]).toNat := by
      rw [bt_data h, List.getD_eq_getElem?_getD, List.getElem?_eq_getElem hl]
      rfl
    rw [dv_take t k (by omega), decV, Nat.zero_add, eb]

end Go.Proofs.YtinndpnilmmmjaaGreatDoor
namespace Go.Proofs.YtinndpnilmmmjaaGreatDoor
open Go

theorem pre_starts (s p : ByteArray) : Lib.hasPrefix s.data.toList p.data.toList = startsB s 0 p := by
  rw [← Lib.hasPrefix_raw]
  unfold startsB
  rw [Nat.zero_add]

theorem trim_starts (s p : ByteArray) : (⟨(Lib.trimPrefix s.data.toList p.data.toList).toArray⟩ : ByteArray) = if startsB s 0 p = true then s.extract p.size s.size else s := by
  by_cases h : startsB s 0 p = true
  · rw [if_pos h]
    unfold startsB at h
    rw [Nat.zero_add, Bool.and_eq_true, decide_eq_true_eq] at h
    exact Lib.trimPrefix_hit s p h.1 h.2
  · rw [if_neg h]
    have h' : startsB s 0 p = false := by simpa using h
    unfold startsB at h'
    rw [Nat.zero_add] at h'
    exact Lib.trimPrefix_miss s p h'

theorem tail_high {s : ByteArray} {i j : Nat} (h : i ≤ s.size) : high (s.extract i s.size) j = high s (i + j) := by
  unfold high
  rw [tail_size]
  by_cases h2 : i + j + 2 ≤ s.size
  · rw [tail_bt (by omega), tail_bt (by omega), Nat.add_assoc i j 1]
    exact decide_eq_decide.2 ⟨fun ⟨_, b⟩ => ⟨h2, b⟩, fun ⟨_, b⟩ => ⟨by omega, b⟩⟩
  · rw [decide_eq_false (fun hh => h2 (by omega)), decide_eq_false (fun hh => h2 hh.1)]

theorem tail_decV {s : ByteArray} {i f : Nat} : ∀ k, i + f + k ≤ s.size → decV (s.extract i s.size) f k = decV s (i + f) k
  | 0, _ => rfl
  | k + 1, h => by
    rw [decV, decV, tail_decV k (by omega), tail_bt (by omega), Nat.add_assoc]

end Go.Proofs.YtinndpnilmmmjaaGreatDoor
namespace Go.Proofs.YtinndpnilmmmjaaGreatDoor
open Go.RowKit

/-- Block p holds a token. -/
def TBox (w : World) (p : Nat) (v0 v1 v2 v3 : Value) : Prop := w.heap[p]? = some (.cells #[v0, v1, v2, v3] 64 (0, 0))

theorem TBox.all {w : World} {p : Nat} {v0 v1 v2 v3 : Value} (h : TBox w p v0 v1 v2 v3) : w.cell? ⟨p, 0, none⟩ = some v0 ∧ w.cell? ⟨p, 1, none⟩ = some v1 ∧ w.cell? ⟨p, 2, none⟩ = some v2 ∧ w.cell? ⟨p, 3, none⟩ = some v3 ∧ w.frozen? ⟨p, 0, none⟩ = false ∧ w.frozen? ⟨p, 1, none⟩ = false ∧ w.frozen? ⟨p, 2, none⟩ = false ∧ w.frozen? ⟨p, 3, none⟩ = false := by
  unfold TBox at h
  refine ⟨?_, ?_, ?_, ?_, frozen_of_row w p 0 _ _ h, frozen_of_row w p 1 _ _ h, frozen_of_row w p 2 _ _ h, frozen_of_row w p 3 _ _ h⟩ <;> simp [World.cell?, h]

theorem TBox.lt {w : World} {p : Nat} {v0 v1 v2 v3 : Value} (h : TBox w p v0 v1 v2 v3) : p < w.heap.size := lt_of_block h

theorem TBox.below {w w' : World} {p B : Nat} {v0 v1 v2 v3 : Value} (h : TBox w p v0 v1 v2 v3) (hB : w.heap.size ≤ B) (hb : Below B w w') : TBox w' p v0 v1 v2 v3 := (hb.block p (Nat.lt_of_lt_of_le h.lt hB)).trans h

theorem TBox.new (w : World) (v0 v1 v2 v3 : Value) : TBox (w.alloc (.cells #[v0, v1, v2, v3] 64 (0, 0))) w.heap.size v0 v1 v2 v3 := by
  show (w.heap.push _)[w.heap.size]? = _
  simp

/-- What a reader of a token gives: the token, how many bytes it has, and a code. -/
def readV (k n : Int) (t : ByteArray) (wd : Nat) (c : Int) : Value := .tuple #[.agg #[.int .i64 k, .int .i64 n, .string t, .int .i64 0], .int .i64 (wd : Nat), .int .i64 c]

theorem run_sub0 {s : ByteArray} {q : Nat} (h2 : q ≤ s.size) (W : World) : (Instr.slice 9 (.string s) none (some (.int .i64 (q : Nat))) none).run Tryz.prog W = .ok (.string (s.extract 0 q)) W := by
  have h3 : (q : Int) ≤ (s.size : Int) := by omega
  go_simp

theorem strTo_le {p : Nat → Bool} {s : ByteArray} : ∀ (F i : Nat), strTo p s F i ≤ s.size
  | 0, _ => Nat.le_refl _
  | F + 1, i => by
    rw [strTo]
    split
    · split
      · exact strTo_le F _
      · omega
    · exact Nat.le_refl _

theorem eg_ld : ∀ args w, (callFunc 189 args).run Tryz.prog w = .ok (.enter 189 args) w := enters_of Tryz.func189 (by kernel_rfl) rfl
theorem eg_d : ∀ args w, (callFunc 151 args).run Tryz.prog w = .ok (.enter 151 args) w := enters_of Tryz.func151 (by kernel_rfl) rfl
theorem eg_l : ∀ args w, (callFunc 154 args).run Tryz.prog w = .ok (.enter 154 args) w := enters_of Tryz.func154 (by kernel_rfl) rfl

set_option maxRecDepth 20000 in
set_option maxHeartbeats 2000000 in
theorem readName_any (t : ByteArray) (w : World) (hs : t.size ≤ 17592186044416) :
    Calls Tryz.prog 155 #[.string t] w fun e w' => e = .returned (if 20 < stretchN isLD t then readV 0 0 ⟨#[]⟩ 0 1 else readV 3 0 (t.extract 0 (stretchN isLD t)) (stretchN isLD t) 0) ∧ Below w.heap.size w w' := by
  obtain ⟨Q, hQ⟩ : ∃ Q, Q = w.alloc (.cells #[.int .i64 0, .int .i64 0, .string ⟨#[]⟩, .int .i64 0] 64) := ⟨_, rfl⟩
  have HQ := hide hQ
  have HBX : Hid (TBox Q w.heap.size (.int .i64 0) (.int .i64 0) (.string ⟨#[]⟩) (.int .i64 0)) := by rw [hQ]; exact TBox.new w _ _ _ _
  have HBQ : Hid (Below w.heap.size w Q) := by rw [hQ]; exact (Below.refl _ _).alloc (Nat.le_refl _) _
  clear hQ
  have HST := hide (stretch_any 189 eg_ld isLD (fun v W => implLD_any v W) t Q hs)
  have hle : stretchN isLD t ≤ t.size := strTo_le _ _
  have hsl := fun W => run_sub0 (s := t) (q := stretchN isLD t) hle W
  obtain ⟨c, hc⟩ : ∃ c, stretchN isLD t = c := ⟨_, rfl⟩
  rw [hc] at HST hsl hle ⊢
  clear hc
  obtain ⟨x, hx⟩ : ∃ x, t.extract 0 c = x := ⟨_, rfl⟩
  rw [hx] at hsl ⊢
  clear hx
  by_cases h20 : 20 < c
  · rw [if_pos h20]
    have h20i : (20 : Int) < (c : Int) := by omega
    go_enter Tryz.func155, Tryz.ntmps155
    go_wp2_with (go_at_call 183; rw [← unhide HQ]; refine (unhide HST).mono ?_; rintro e w5 ⟨rfl, hb5⟩; obtain ⟨q0, q1, q2, q3, f0, f1, f2, f3⟩ := ((unhide HBX).below (Nat.le_refl _) hb5).all; have HB5 := hide ((unhide HBQ).trans (hb5.mono (unhide HBQ).size)); clear hb5)
    refine bodyPost_ret (v := readV 0 0 ⟨#[]⟩ 0 1) (by simp [results, Tryz.results155, go_sem, q0, q1, q2, q3, readV]) rfl ?_
    exact ⟨rfl, (((((unhide HB5).setCell (Nat.le_refl _) _).setCell (Nat.le_refl _) _).setCell (Nat.le_refl _) _).setCell (Nat.le_refl _) _)⟩
  · rw [if_neg h20]
    have h20i : ¬ (20 : Int) < (c : Int) := by omega
    go_enter Tryz.func155, Tryz.ntmps155
    go_wp2_with (go_at_call 183; rw [← unhide HQ]; refine (unhide HST).mono ?_; rintro e w5 ⟨rfl, hb5⟩; obtain ⟨q0, q1, q2, q3, f0, f1, f2, f3⟩ := ((unhide HBX).below (Nat.le_refl _) hb5).all; have HB5 := hide ((unhide HBQ).trans (hb5.mono (unhide HBQ).size)); clear hb5)
    refine bodyPost_ret (v := readV 3 0 x c 0) (by simp [results, Tryz.results155, go_sem, q0, q1, q2, q3, readV]) rfl ?_
    exact ⟨rfl, (((((unhide HB5).setCell (Nat.le_refl _) _).setCell (Nat.le_refl _) _).setCell (Nat.le_refl _) _).setCell (Nat.le_refl _) _)⟩

end Go.Proofs.YtinndpnilmmmjaaGreatDoor
namespace Go.Proofs
open Go.Shelf
def Tryz.hasPreS_ren : Go.Shelf.Ren := ⟨fun | 99 => 184 | 206 => 209 | n => n, fun | 9 => 9 | 4 => 4 | 3 => 3 | n => n, fun | n => n⟩
theorem Tryz.hasPreS : Go.Proofs.Lays.n99 Tryz.prog Tryz.hasPreS_ren := {
  mixed := by kernel_rfl
  f99 := Tryz.func184.trans (congrArg some (by kernel_rfl))
  f206 := Tryz.func209.trans (congrArg some (by kernel_rfl))
  t3 := Tryz.underlying3
  a3 := Tryz.isAgg3
  z3 := Tryz.sizeOf3
  v3 := Tryz.zeroValue3
  t4 := Tryz.underlying4
  a4 := Tryz.isAgg4
  z4 := Tryz.sizeOf4
  v4 := Tryz.zeroValue4
  t9 := Tryz.underlying9
  a9 := Tryz.isAgg9
  z9 := Tryz.sizeOf9
  v9 := Tryz.zeroValue9 }
end Go.Proofs
namespace Go.Proofs
open Go.Shelf
def Tryz.trimPreS_ren : Go.Shelf.Ren := ⟨fun | 101 => 182 | 208 => 208 | 206 => 209 | n => n, fun | 9 => 9 | 4 => 4 | 3 => 3 | n => n, fun | n => n⟩
theorem Tryz.trimPreS : Go.Proofs.Lays.n101 Tryz.prog Tryz.trimPreS_ren := {
  mixed := by kernel_rfl
  f101 := Tryz.func182.trans (congrArg some (by kernel_rfl))
  f206 := Tryz.func209.trans (congrArg some (by kernel_rfl))
  f208 := Tryz.func208.trans (congrArg some (by kernel_rfl))
  t3 := Tryz.underlying3
  a3 := Tryz.isAgg3
  z3 := Tryz.sizeOf3
  v3 := Tryz.zeroValue3
  t4 := Tryz.underlying4
  a4 := Tryz.isAgg4
  z4 := Tryz.sizeOf4
  v4 := Tryz.zeroValue4
  t9 := Tryz.underlying9
  a9 := Tryz.isAgg9
  z9 := Tryz.sizeOf9
  v9 := Tryz.zeroValue9 }
end Go.Proofs
namespace Go.Proofs
open Go.Shelf
def Tryz.atoiS_ren : Go.Shelf.Ren := ⟨fun | 172 => 185 | 244 => 210 | 245 => 211 | 247 => 233 | 279 => 234 | 280 => 235 | 281 => 236 | 282 => 237 | 287 => 250 | 316 => 251 | 171 => 125 | 205 => 252 | 321 => 255 | 322 => 256 | 243 => 176 | 246 => 207 | 283 => 229 | 284 => 230 | 285 => 231 | 286 => 232 | 129 => 246 | 317 => 245 | 318 => 247 | 319 => 248 | 320 => 249 | 337 => 253 | 338 => 254 | n => n, fun | 9 => 9 | 3 => 3 | 75 => 66 | 76 => 68 | 4 => 4 | 5 => 5 | 167 => 217 | 37 => 33 | 0 => 0 | 85 => 218 | 2 => 2 | 168 => 220 | 53 => 212 | 175 => 230 | 46 => 207 | 210 => 233 | 127 => 115 | 145 => 238 | 143 => 236 | 21 => 21 | 171 => 211 | 173 => 215 | 212 => 227 | 51 => 223 | 20 => 20 | 213 => 228 | 232 => 239 | 233 => 240 | 80 => 74 | n => n, fun | 15 => 6 | 16 => 7 | 17 => 5 | 18 => 8 | 19 => 9 | n => n⟩
theorem Tryz.atoiS : Go.Proofs.LaysC.n172 Tryz.prog Tryz.atoiS_ren := {
  mixed := by kernel_rfl
  f129 := Tryz.func246.trans (congrArg some (by kernel_rfl))
  f171 := Tryz.func125.trans (congrArg some (by kernel_rfl))
  f172 := Tryz.func185.trans (congrArg some (by kernel_rfl))
  f205 := Tryz.func252.trans (congrArg some (by kernel_rfl))
  f243 := Tryz.func176.trans (congrArg some (by kernel_rfl))
  f244 := Tryz.func210.trans (congrArg some (by kernel_rfl))
  f245 := Tryz.func211.trans (congrArg some (by kernel_rfl))
  f246 := Tryz.func207.trans (congrArg some (by kernel_rfl))
  f247 := Tryz.func233.trans (congrArg some (by kernel_rfl))
  f279 := Tryz.func234.trans (congrArg some (by kernel_rfl))
  f280 := Tryz.func235.trans (congrArg some (by kernel_rfl))
  f281 := Tryz.func236.trans (congrArg some (by kernel_rfl))
  f282 := Tryz.func237.trans (congrArg some (by kernel_rfl))
  f283 := Tryz.func229.trans (congrArg some (by kernel_rfl))
  f284 := Tryz.func230.trans (congrArg some (by kernel_rfl))
  f285 := Tryz.func231.trans (congrArg some (by kernel_rfl))
  f286 := Tryz.func232.trans (congrArg some (by kernel_rfl))
  f287 := Tryz.func250.trans (congrArg some (by kernel_rfl))
  f316 := Tryz.func251.trans (congrArg some (by kernel_rfl))
  f317 := Tryz.func245.trans (congrArg some (by kernel_rfl))
  f318 := Tryz.func247.trans (congrArg some (by kernel_rfl))
  f319 := Tryz.func248.trans (congrArg some (by kernel_rfl))
  f320 := Tryz.func249.trans (congrArg some (by kernel_rfl))
  f321 := Tryz.func255.trans (congrArg some (by kernel_rfl))
  f322 := Tryz.func256.trans (congrArg some (by kernel_rfl))
  f337 := Tryz.func253.trans (congrArg some (by kernel_rfl))
  f338 := Tryz.func254.trans (congrArg some (by kernel_rfl))
  t0 := Tryz.underlying0
  a0 := Tryz.isAgg0
  z0 := Tryz.sizeOf0
  v0 := Tryz.zeroValue0
  t2 := Tryz.underlying2
  a2 := Tryz.isAgg2
  z2 := Tryz.sizeOf2
  v2 := Tryz.zeroValue2
  t3 := Tryz.underlying3
  a3 := Tryz.isAgg3
  z3 := Tryz.sizeOf3
  v3 := Tryz.zeroValue3
  t4 := Tryz.underlying4
  a4 := Tryz.isAgg4
  z4 := Tryz.sizeOf4
  v4 := Tryz.zeroValue4
  t5 := Tryz.underlying5
  a5 := Tryz.isAgg5
  z5 := Tryz.sizeOf5
  v5 := Tryz.zeroValue5
  t9 := Tryz.underlying9
  a9 := Tryz.isAgg9
  z9 := Tryz.sizeOf9
  v9 := Tryz.zeroValue9
  t20 := Tryz.underlying20
  a20 := Tryz.isAgg20
  z20 := Tryz.sizeOf20
  v20 := Tryz.zeroValue20
  t21 := Tryz.underlying21
  a21 := Tryz.isAgg21
  z21 := Tryz.sizeOf21
  v21 := Tryz.zeroValue21
  t37 := Tryz.underlying33
  a37 := Tryz.isAgg33
  z37 := Tryz.sizeOf33
  v37 := Tryz.zeroValue33
  t46 := Tryz.underlying207
  a46 := Tryz.isAgg207
  z46 := Tryz.sizeOf207
  v46 := Tryz.zeroValue207
  t51 := Tryz.underlying223
  a51 := Tryz.isAgg223
  z51 := Tryz.sizeOf223
  v51 := Tryz.zeroValue223
  t53 := Tryz.underlying212
  a53 := Tryz.isAgg212
  z53 := Tryz.sizeOf212
  v53 := Tryz.zeroValue212
  t75 := Tryz.underlying66
  a75 := Tryz.isAgg66
  z75 := Tryz.sizeOf66
  v75 := Tryz.zeroValue66
  t76 := Tryz.underlying68
  a76 := Tryz.isAgg68
  z76 := Tryz.sizeOf68
  v76 := Tryz.zeroValue68
  t85 := Tryz.underlying218
  a85 := Tryz.isAgg218
  z85 := Tryz.sizeOf218
  v85 := Tryz.zeroValue218
  t127 := Tryz.underlying115
  a127 := Tryz.isAgg115
  z127 := Tryz.sizeOf115
  v127 := Tryz.zeroValue115
  t143 := Tryz.underlying236
  a143 := Tryz.isAgg236
  z143 := Tryz.sizeOf236
  v143 := Tryz.zeroValue236
  t145 := Tryz.underlying238
  a145 := Tryz.isAgg238
  z145 := Tryz.sizeOf238
  v145 := Tryz.zeroValue238
  t167 := Tryz.underlying217
  a167 := Tryz.isAgg217
  z167 := Tryz.sizeOf217
  v167 := Tryz.zeroValue217
  t168 := Tryz.underlying220
  a168 := Tryz.isAgg220
  z168 := Tryz.sizeOf220
  v168 := Tryz.zeroValue220
  t171 := Tryz.underlying211
  a171 := Tryz.isAgg211
  z171 := Tryz.sizeOf211
  v171 := Tryz.zeroValue211
  t173 := Tryz.underlying215
  a173 := Tryz.isAgg215
  z173 := Tryz.sizeOf215
  v173 := Tryz.zeroValue215
  t175 := Tryz.underlying230
  a175 := Tryz.isAgg230
  z175 := Tryz.sizeOf230
  v175 := Tryz.zeroValue230
  t210 := Tryz.underlying233
  a210 := Tryz.isAgg233
  z210 := Tryz.sizeOf233
  v210 := Tryz.zeroValue233
  t212 := Tryz.underlying227
  a212 := Tryz.isAgg227
  z212 := Tryz.sizeOf227
  v212 := Tryz.zeroValue227
  t213 := Tryz.underlying228
  a213 := Tryz.isAgg228
  z213 := Tryz.sizeOf228
  t232 := Tryz.underlying239
  a232 := Tryz.isAgg239
  z232 := Tryz.sizeOf239
  v232 := Tryz.zeroValue239
  t233 := Tryz.underlying240
  a233 := Tryz.isAgg240
  z233 := Tryz.sizeOf240
  v233 := Tryz.zeroValue240
  g15 := by kernel_rfl
  g16 := by kernel_rfl
  g17 := by kernel_rfl
  g18 := by kernel_rfl
  g19 := by kernel_rfl
  t80 := Tryz.underlying74
  a80 := Tryz.isAgg74
  z80 := Tryz.sizeOf74
  v80 := Tryz.zeroValue74
  i0 := by kernel_rfl
  i2 := by kernel_rfl
  i3 := by kernel_rfl
  i4 := by kernel_rfl
  i5 := by kernel_rfl
  i9 := by kernel_rfl
  i20 := by kernel_rfl
  i21 := by kernel_rfl
  i37 := by kernel_rfl
  i46 := by kernel_rfl
  i51 := by kernel_rfl
  i53 := by kernel_rfl
  i75 := by kernel_rfl
  i76 := by kernel_rfl
  i80 := by kernel_rfl
  i85 := by kernel_rfl
  i127 := by kernel_rfl
  i143 := by kernel_rfl
  i145 := by kernel_rfl
  i167 := by kernel_rfl
  i168 := by kernel_rfl
  i171 := by kernel_rfl
  i173 := by kernel_rfl
  i175 := by kernel_rfl
  i210 := by kernel_rfl
  i212 := by kernel_rfl
  i232 := by kernel_rfl
  i233 := by kernel_rfl
  m15 := by kernel_rfl
  m16 := by kernel_rfl
  m17 := by kernel_rfl
  m18 := by kernel_rfl
  m19 := by kernel_rfl
  c0 := by kernel_rfl
  c2 := by kernel_rfl
  c3 := by kernel_rfl
  c4 := by kernel_rfl
  c5 := by kernel_rfl
  c9 := by kernel_rfl
  c20 := by kernel_rfl
  c21 := by kernel_rfl
  c37 := by kernel_rfl
  c46 := by kernel_rfl
  c51 := by kernel_rfl
  c53 := by kernel_rfl
  c75 := by kernel_rfl
  c76 := by kernel_rfl
  c80 := by kernel_rfl
  c85 := by kernel_rfl
  c127 := by kernel_rfl
  c143 := by kernel_rfl
  c145 := by kernel_rfl
  c167 := by kernel_rfl
  c168 := by kernel_rfl
  c171 := by kernel_rfl
  c173 := by kernel_rfl
  c175 := by kernel_rfl
  c210 := by kernel_rfl
  c212 := by kernel_rfl
  c213 := by kernel_rfl
  c232 := by kernel_rfl
  c233 := by kernel_rfl }
end Go.Proofs
namespace Go.Proofs.YtinndpnilmmmjaaGreatDoor
open Go.RowKit

theorem trimPre_any (t : ByteArray) (w : World) : Calls Tryz.prog 182 #[.string t, .string ⟨#[194, 175]⟩] w fun e w' => e = .returned (.string (if high t 0 = true then t.extract 2 t.size else t)) ∧ w' = w := by
  have h := Any.strings_TrimPrefix Tryz.trimPreS t ⟨#[194, 175]⟩ w
  rw [trim_starts, starts_high] at h
  exact h

theorem hasPre_any (t : ByteArray) (w : World) : Calls Tryz.prog 184 #[.string t, .string ⟨#[194, 175]⟩] w fun e w' => e = .returned (.bool (high t 0)) ∧ w' = w := by
  have h := Any.strings_HasPrefix Tryz.hasPreS t ⟨#[194, 175]⟩ w
  rw [pre_starts, starts_high] at h
  exact h

/-- Where strconv.ErrRange lies. -/
def RangeAt (w : World) : Prop := ∃ ev, w.cell? ⟨Tryz.atoiS_ren.g 16, 0, none⟩ = some ev ∧ (ev = .nilIface ∨ ∃ te pe, ev = .iface te pe)

theorem RangeAt.below {w w' : World} (h : RangeAt w) (hb : Below w.heap.size w w') : RangeAt w' := by
  obtain ⟨ev, h1, h2⟩ := h
  exact ⟨ev, (hb.cell (show (⟨Tryz.atoiS_ren.g 16, 0, none⟩ : Addr).block < w.heap.size from Lib.lt_of_cell h1)).trans h1, h2⟩

theorem atoi_ok (x : ByteArray) (n : Nat) (hs : x.size ≤ 17592186044416) (h : Lib.atoiAll x.data.toList = .ok (n : Int)) (w : World) : Calls Tryz.prog 185 #[.string x] w fun e w' => e = .returned (.tuple #[.int .i64 (n : Int), .nilIface]) ∧ Below w.heap.size w w' := by
  refine (Any.strconv_Atoi_ok Tryz.atoiS x (by omega) n h w).mono ?_
  rintro e w' ⟨rfl, hw⟩
  refine ⟨rfl, ?_⟩
  rcases hw with rfl | ⟨t, rfl⟩
  · exact Below.refl _ _
  · exact Lib.bytesWorld_below _ _ _

theorem atoi_range (x : ByteArray) (hs : x.size ≤ 17592186044416) (h : Lib.atoiAll x.data.toList = .range) (w : World) (hR : RangeAt w) : Calls Tryz.prog 185 #[.string x] w fun e w' => ∃ n ty p, e = .returned (.tuple #[.int .i64 n, .iface ty p]) ∧ Below w.heap.size w w' := by
  obtain ⟨ev, h1, h2⟩ := hR
  refine (Any.strconv_Atoi_range Tryz.atoiS x (by omega) h ev w h1 h2).mono ?_
  rintro e w' ⟨N, rfl, -, -, hb⟩
  exact ⟨_, _, _, rfl, hb⟩

theorem run_sub1 {s : ByteArray} {q : Nat} (h2 : q ≤ s.size) (W : World) : (Instr.slice 9 (.string s) (some (.int .i64 (q : Nat))) none none).run Tryz.prog W = .ok (.string (s.extract q s.size)) W := by
  have h3 : (q : Int) ≤ (s.size : Int) := by omega
  go_simp

end Go.Proofs.YtinndpnilmmmjaaGreatDoor
namespace Go.Proofs.YtinndpnilmmmjaaGreatDoor
open Go.RowKit

set_option maxRecDepth 20000 in
set_option maxHeartbeats 2000000 in
theorem readNumber_zero (t d r x : ByteArray) (H : Bool) (c l : Nat) (w : World) (hH : high t 0 = H) (hd : (if H = true then t.extract 2 t.size else t) = d) (hc : stretchN isD d = c) (hr : d.extract c d.size = r) (hx : d.extract 0 c = x) (hl : stretchN isL r = l) (hs : t.size ≤ 17592186044416) (h0 : c = 0) :
    Calls Tryz.prog 152 #[.string t] w fun e w' => e = .returned (readV 0 0 ⟨#[]⟩ 0 1) ∧ Below w.heap.size w w' := by
  have hds : d.size ≤ t.size := by
    rw [← hd]
    by_cases hh : H = true
    · rw [if_pos hh, tail_size]; omega
    · rw [if_neg hh]; exact Nat.le_refl _
  have hle : c ≤ d.size := by rw [← hc]; exact strTo_le _ _
  have hrs : r.size ≤ d.size := by rw [← hr, tail_size]; omega
  have hxs : x.size ≤ d.size := by rw [← hx, ByteArray.size_extract]; omega
  have hlr : l ≤ r.size := by rw [← hl]; exact strTo_le _ _
  obtain ⟨Q, hQ⟩ : ∃ Q, Q = w.alloc (.cells #[.int .i64 0, .int .i64 0, .string ⟨#[]⟩, .int .i64 0] 64) := ⟨_, rfl⟩
  have HQ := hide hQ
  have HBX : Hid (TBox Q w.heap.size (.int .i64 0) (.int .i64 0) (.string ⟨#[]⟩) (.int .i64 0)) := by rw [hQ]; exact TBox.new w _ _ _ _
  have HBQ : Hid (Below w.heap.size w Q) := by rw [hQ]; exact (Below.refl _ _).alloc (Nat.le_refl _) _
  clear hQ
  have HT := hide (trimPre_any t)
  have HS1 := hide (fun W => stretch_any 151 eg_d isD (fun v W => implDigit_any v W) d W (by omega))
  have HS2 := hide (fun W => stretch_any 154 eg_l isL (fun v W => implLetter_any v W) r W (by omega))
  have HP := hide (hasPre_any r)
  have hsl := fun W => run_sub1 (s := d) (q := c) hle W
  have hsx := fun W => run_sub0 (s := d) (q := c) hle W
  rw [hH, hd] at HT
  rw [hc] at HS1
  rw [hl] at HS2
  rw [hr] at hsl
  rw [hx] at hsx
  clear hH hd hc hr hx hl
  subst h0
  go_enter Tryz.func152, Tryz.ntmps152
  go_wp2_with (first | (go_at_call 182; rw [← unhide HQ]; refine (unhide HT _).mono ?_; rintro e w1 ⟨rfl, hw⟩; obtain rfl := hw.symm) | (go_at_call 183; refine (unhide HS1 _).mono ?_; rintro e w5 ⟨rfl, hb5⟩; have HB5 := hide ((unhide HBQ).trans (hb5.mono (unhide HBQ).size)); have HX5 := hide ((unhide HBX).below (Nat.le_refl _) hb5); clear hb5; obtain ⟨q0, q1, q2, q3, f0, f1, f2, f3⟩ := (unhide HX5).all))
  refine bodyPost_ret (v := readV 0 0 ⟨#[]⟩ 0 1) (by simp [results, Tryz.results152, go_sem, q0, q1, q2, q3, readV]) rfl ?_
  exact ⟨rfl, (((((unhide HB5).setCell (Nat.le_refl _) _).setCell (Nat.le_refl _) _).setCell (Nat.le_refl _) _).setCell (Nat.le_refl _) _)⟩

end Go.Proofs.YtinndpnilmmmjaaGreatDoor
namespace Go.Proofs.YtinndpnilmmmjaaGreatDoor
open Go.RowKit

set_option maxRecDepth 20000 in
set_option maxHeartbeats 2000000 in
theorem readNumber_letter (t d r x : ByteArray) (H : Bool) (c l : Nat) (w : World) (hH : high t 0 = H) (hd : (if H = true then t.extract 2 t.size else t) = d) (hc : stretchN isD d = c) (hr : d.extract c d.size = r) (hx : d.extract 0 c = x) (hl : stretchN isL r = l) (hs : t.size ≤ 17592186044416) (h0 : c ≠ 0) (h1 : 0 < l) :
    Calls Tryz.prog 152 #[.string t] w fun e w' => e = .returned (readV 0 0 ⟨#[]⟩ 0 1) ∧ Below w.heap.size w w' := by
  have hds : d.size ≤ t.size := by
    rw [← hd]
    by_cases hh : H = true
    · rw [if_pos hh, tail_size]; omega
    · rw [if_neg hh]; exact Nat.le_refl _
  have hle : c ≤ d.size := by rw [← hc]; exact strTo_le _ _
  have hrs : r.size ≤ d.size := by rw [← hr, tail_size]; omega
  have hxs : x.size ≤ d.size := by rw [← hx, ByteArray.size_extract]; omega
  have hlr : l ≤ r.size := by rw [← hl]; exact strTo_le _ _
  obtain ⟨Q, hQ⟩ : ∃ Q, Q = w.alloc (.cells #[.int .i64 0, .int .i64 0, .string ⟨#[]⟩, .int .i64 0] 64) := ⟨_, rfl⟩
  have HQ := hide hQ
  have HBX : Hid (TBox Q w.heap.size (.int .i64 0) (.int .i64 0) (.string ⟨#[]⟩) (.int .i64 0)) := by rw [hQ]; exact TBox.new w _ _ _ _
  have HBQ : Hid (Below w.heap.size w Q) := by rw [hQ]; exact (Below.refl _ _).alloc (Nat.le_refl _) _
  clear hQ
  have HT := hide (trimPre_any t)
  have HS1 := hide (fun W => stretch_any 151 eg_d isD (fun v W => implDigit_any v W) d W (by omega))
  have HS2 := hide (fun W => stretch_any 154 eg_l isL (fun v W => implLetter_any v W) r W (by omega))
  have HP := hide (hasPre_any r)
  have hsl := fun W => run_sub1 (s := d) (q := c) hle W
  have hsx := fun W => run_sub0 (s := d) (q := c) hle W
  rw [hH, hd] at HT
  rw [hc] at HS1
  rw [hl] at HS2
  rw [hr] at hsl
  rw [hx] at hsx
  clear hH hd hc hr hx hl
  have h0i : ¬ (c : Int) = 0 := by omega
  have h1i : (0 : Int) < (l : Int) := by omega
  go_enter Tryz.func152, Tryz.ntmps152
  go_wp2_with (first | (go_at_call 182; rw [← unhide HQ]; refine (unhide HT _).mono ?_; rintro e w1 ⟨rfl, hw⟩; obtain rfl := hw.symm) | (have hz5 := HB5; clear hz5; go_at_call 183; refine (unhide HS2 _).mono ?_; rintro e w6 ⟨rfl, hb6⟩; have HB6 := hide ((unhide HB5).trans (hb6.mono (unhide HB5).size)); have HX6 := hide ((unhide HX5).below (Nat.le_refl _) hb6); clear hb6; obtain ⟨q0, q1, q2, q3, f0, f1, f2, f3⟩ := (unhide HX6).all) | (go_at_call 183; refine (unhide HS1 _).mono ?_; rintro e w5 ⟨rfl, hb5⟩; have HB5 := hide ((unhide HBQ).trans (hb5.mono (unhide HBQ).size)); have HX5 := hide ((unhide HBX).below (Nat.le_refl _) hb5); clear hb5))
  refine bodyPost_ret (v := readV 0 0 ⟨#[]⟩ 0 1) (by simp [results, Tryz.results152, go_sem, q0, q1, q2, q3, readV]) rfl ?_
  exact ⟨rfl, (((((unhide HB6).setCell (Nat.le_refl _) _).setCell (Nat.le_refl _) _).setCell (Nat.le_refl _) _).setCell (Nat.le_refl _) _)⟩

end Go.Proofs.YtinndpnilmmmjaaGreatDoor
namespace Go.Proofs.YtinndpnilmmmjaaGreatDoor
open Go.RowKit

set_option maxRecDepth 20000 in
set_option maxHeartbeats 2000000 in
theorem readNumber_mark (t d r x : ByteArray) (H : Bool) (c l : Nat) (w : World) (hH : high t 0 = H) (hd : (if H = true then t.extract 2 t.size else t) = d) (hc : stretchN isD d = c) (hr : d.extract c d.size = r) (hx : d.extract 0 c = x) (hl : stretchN isL r = l) (hs : t.size ≤ 17592186044416) (h0 : c ≠ 0) (h1 : l = 0) (h2 : high r 0 = true) :
    Calls Tryz.prog 152 #[.string t] w fun e w' => e = .returned (readV 0 0 ⟨#[]⟩ 0 1) ∧ Below w.heap.size w w' := by
  have hds : d.size ≤ t.size := by
    rw [← hd]
    by_cases hh : H = true
    · rw [if_pos hh, tail_size]; omega
    · rw [if_neg hh]; exact Nat.le_refl _
  have hle : c ≤ d.size := by rw [← hc]; exact strTo_le _ _
  have hrs : r.size ≤ d.size := by rw [← hr, tail_size]; omega
  have hxs : x.size ≤ d.size := by rw [← hx, ByteArray.size_extract]; omega
  have hlr : l ≤ r.size := by rw [← hl]; exact strTo_le _ _
  obtain ⟨Q, hQ⟩ : ∃ Q, Q = w.alloc (.cells #[.int .i64 0, .int .i64 0, .string ⟨#[]⟩, .int .i64 0] 64) := ⟨_, rfl⟩
  have HQ := hide hQ
  have HBX : Hid (TBox Q w.heap.size (.int .i64 0) (.int .i64 0) (.string ⟨#[]⟩) (.int .i64 0)) := by rw [hQ]; exact TBox.new w _ _ _ _
  have HBQ : Hid (Below w.heap.size w Q) := by rw [hQ]; exact (Below.refl _ _).alloc (Nat.le_refl _) _
  clear hQ
  have HT := hide (trimPre_any t)
  have HS1 := hide (fun W => stretch_any 151 eg_d isD (fun v W => implDigit_any v W) d W (by omega))
  have HS2 := hide (fun W => stretch_any 154 eg_l isL (fun v W => implLetter_any v W) r W (by omega))
  have HP := hide (hasPre_any r)
  have hsl := fun W => run_sub1 (s := d) (q := c) hle W
  have hsx := fun W => run_sub0 (s := d) (q := c) hle W
  rw [hH, hd] at HT
  rw [hc] at HS1
  rw [hl] at HS2
  rw [hr] at hsl
  rw [hx] at hsx
  clear hH hd hc hr hx hl
  have h0i : ¬ (c : Int) = 0 := by omega
  subst h1
  rw [h2] at HP
  clear h2
  go_enter Tryz.func152, Tryz.ntmps152
  go_wp2_with (first | (go_at_call 182; rw [← unhide HQ]; refine (unhide HT _).mono ?_; rintro e w1 ⟨rfl, hw⟩; obtain rfl := hw.symm) | (have hz5 := HB5; clear hz5; go_at_call 183; refine (unhide HS2 _).mono ?_; rintro e w6 ⟨rfl, hb6⟩; have HB6 := hide ((unhide HB5).trans (hb6.mono (unhide HB5).size)); have HX6 := hide ((unhide HX5).below (Nat.le_refl _) hb6); clear hb6; obtain ⟨q0, q1, q2, q3, f0, f1, f2, f3⟩ := (unhide HX6).all) | (go_at_call 183; refine (unhide HS1 _).mono ?_; rintro e w5 ⟨rfl, hb5⟩; have HB5 := hide ((unhide HBQ).trans (hb5.mono (unhide HBQ).size)); have HX5 := hide ((unhide HBX).below (Nat.le_refl _) hb5); clear hb5) | (go_at_call 184; refine (unhide HP _).mono ?_; rintro e w1 ⟨rfl, hw⟩; obtain rfl := hw.symm))
  refine bodyPost_ret (v := readV 0 0 ⟨#[]⟩ 0 1) (by simp [results, Tryz.results152, go_sem, q0, q1, q2, q3, readV]) rfl ?_
  exact ⟨rfl, (((((unhide HB6).setCell (Nat.le_refl _) _).setCell (Nat.le_refl _) _).setCell (Nat.le_refl _) _).setCell (Nat.le_refl _) _)⟩

end Go.Proofs.YtinndpnilmmmjaaGreatDoor
namespace Go.Proofs.YtinndpnilmmmjaaGreatDoor
open Go.RowKit

set_option maxRecDepth 20000 in
set_option maxHeartbeats 2000000 in
theorem readNumber_big (t d r x : ByteArray) (H : Bool) (c l : Nat) (n : Nat) (w : World) (hH : high t 0 = H) (hd : (if H = true then t.extract 2 t.size else t) = d) (hc : stretchN isD d = c) (hr : d.extract c d.size = r) (hx : d.extract 0 c = x) (hl : stretchN isL r = l) (hs : t.size ≤ 17592186044416) (h0 : c ≠ 0) (h1 : l = 0) (h2 : high r 0 = false) (h3 : Lib.atoiAll x.data.toList = .ok (n : Int)) (h4 : 1000000000000000 < n) :
    Calls Tryz.prog 152 #[.string t] w fun e w' => e = .returned (readV 0 0 ⟨#[]⟩ 0 7) ∧ Below w.heap.size w w' := by
  have hds : d.size ≤ t.size := by
    rw [← hd]
    by_cases hh : H = true
    · rw [if_pos hh, tail_size]; omega
    · rw [if_neg hh]; exact Nat.le_refl _
  have hle : c ≤ d.size := by rw [← hc]; exact strTo_le _ _
  have hrs : r.size ≤ d.size := by rw [← hr, tail_size]; omega
  have hxs : x.size ≤ d.size := by rw [← hx, ByteArray.size_extract]; omega
  have hlr : l ≤ r.size := by rw [← hl]; exact strTo_le _ _
  obtain ⟨Q, hQ⟩ : ∃ Q, Q = w.alloc (.cells #[.int .i64 0, .int .i64 0, .string ⟨#[]⟩, .int .i64 0] 64) := ⟨_, rfl⟩
  have HQ := hide hQ
  have HBX : Hid (TBox Q w.heap.size (.int .i64 0) (.int .i64 0) (.string ⟨#[]⟩) (.int .i64 0)) := by rw [hQ]; exact TBox.new w _ _ _ _
  have HBQ : Hid (Below w.heap.size w Q) := by rw [hQ]; exact (Below.refl _ _).alloc (Nat.le_refl _) _
  clear hQ
  have HT := hide (trimPre_any t)
  have HS1 := hide (fun W => stretch_any 151 eg_d isD (fun v W => implDigit_any v W) d W (by omega))
  have HS2 := hide (fun W => stretch_any 154 eg_l isL (fun v W => implLetter_any v W) r W (by omega))
  have HP := hide (hasPre_any r)
  have hsl := fun W => run_sub1 (s := d) (q := c) hle W
  have hsx := fun W => run_sub0 (s := d) (q := c) hle W
  rw [hH, hd] at HT
  rw [hc] at HS1
  rw [hl] at HS2
  rw [hr] at hsl
  rw [hx] at hsx
  clear hH hd hc hr hx hl
  have h0i : ¬ (c : Int) = 0 := by omega
  subst h1
  rw [h2] at HP
  clear h2
  have h4i : (1000000000000000 : Int) < (n : Int) := by omega
  have HA := hide (fun W => atoi_ok x n (by omega) h3 W)
  clear h3
  go_enter Tryz.func152, Tryz.ntmps152
  go_wp2_with (first | (go_at_call 182; rw [← unhide HQ]; refine (unhide HT _).mono ?_; rintro e w1 ⟨rfl, hw⟩; obtain rfl := hw.symm) | (have hz5 := HB5; clear hz5; go_at_call 183; refine (unhide HS2 _).mono ?_; rintro e w6 ⟨rfl, hb6⟩; have HB6 := hide ((unhide HB5).trans (hb6.mono (unhide HB5).size)); have HX6 := hide ((unhide HX5).below (Nat.le_refl _) hb6); clear hb6) | (go_at_call 183; refine (unhide HS1 _).mono ?_; rintro e w5 ⟨rfl, hb5⟩; have HB5 := hide ((unhide HBQ).trans (hb5.mono (unhide HBQ).size)); have HX5 := hide ((unhide HBX).below (Nat.le_refl _) hb5); clear hb5) | (go_at_call 184; refine (unhide HP _).mono ?_; rintro e w1 ⟨rfl, hw⟩; obtain rfl := hw.symm) | (go_at_call 185; refine (unhide HA _).mono ?_; rintro e w7 ⟨rfl, hb7⟩; have HB7 := hide ((unhide HB6).trans (hb7.mono (unhide HB6).size)); obtain ⟨q0, q1, q2, q3, f0, f1, f2, f3⟩ := ((unhide HX6).below (Nat.le_refl _) hb7).all; clear hb7))
  refine bodyPost_ret (v := readV 0 0 ⟨#[]⟩ 0 7) (by simp [results, Tryz.results152, go_sem, q0, q1, q2, q3, readV]) rfl ?_
  exact ⟨rfl, (((((unhide HB7).setCell (Nat.le_refl _) _).setCell (Nat.le_refl _) _).setCell (Nat.le_refl _) _).setCell (Nat.le_refl _) _)⟩

end Go.Proofs.YtinndpnilmmmjaaGreatDoor
namespace Go.Proofs.YtinndpnilmmmjaaGreatDoor
open Go.RowKit

set_option maxRecDepth 20000 in
set_option maxHeartbeats 2000000 in
theorem readNumber_range (t d r x : ByteArray) (H : Bool) (c l : Nat) (w : World) (hH : high t 0 = H) (hd : (if H = true then t.extract 2 t.size else t) = d) (hc : stretchN isD d = c) (hr : d.extract c d.size = r) (hx : d.extract 0 c = x) (hl : stretchN isL r = l) (hs : t.size ≤ 17592186044416) (h0 : c ≠ 0) (h1 : l = 0) (h2 : high r 0 = false) (h3 : Lib.atoiAll x.data.toList = .range) (hR : RangeAt w) :
    Calls Tryz.prog 152 #[.string t] w fun e w' => e = .returned (readV 0 0 ⟨#[]⟩ 0 7) ∧ Below w.heap.size w w' := by
  have hds : d.size ≤ t.size := by
    rw [← hd]
    by_cases hh : H = true
    · rw [if_pos hh, tail_size]; omega
    · rw [if_neg hh]; exact Nat.le_refl _
  have hle : c ≤ d.size := by rw [← hc]; exact strTo_le _ _
  have hrs : r.size ≤ d.size := by rw [← hr, tail_size]; omega
  have hxs : x.size ≤ d.size := by rw [← hx, ByteArray.size_extract]; omega
  have hlr : l ≤ r.size := by rw [← hl]; exact strTo_le _ _
  obtain ⟨Q, hQ⟩ : ∃ Q, Q = w.alloc (.cells #[.int .i64 0, .int .i64 0, .string ⟨#[]⟩, .int .i64 0] 64) := ⟨_, rfl⟩
  have HQ := hide hQ
  have HBX : Hid (TBox Q w.heap.size (.int .i64 0) (.int .i64 0) (.string ⟨#[]⟩) (.int .i64 0)) := by rw [hQ]; exact TBox.new w _ _ _ _
  have HBQ : Hid (Below w.heap.size w Q) := by rw [hQ]; exact (Below.refl _ _).alloc (Nat.le_refl _) _
  clear hQ
  have HT := hide (trimPre_any t)
  have HS1 := hide (fun W => stretch_any 151 eg_d isD (fun v W => implDigit_any v W) d W (by omega))
  have HS2 := hide (fun W => stretch_any 154 eg_l isL (fun v W => implLetter_any v W) r W (by omega))
  have HP := hide (hasPre_any r)
  have hsl := fun W => run_sub1 (s := d) (q := c) hle W
  have hsx := fun W => run_sub0 (s := d) (q := c) hle W
  rw [hH, hd] at HT
  rw [hc] at HS1
  rw [hl] at HS2
  rw [hr] at hsl
  rw [hx] at hsx
  clear hH hd hc hr hx hl
  have h0i : ¬ (c : Int) = 0 := by omega
  subst h1
  rw [h2] at HP
  clear h2
  have HA := hide (fun W (hb : Below w.heap.size w W) => atoi_range x (by omega) h3 W (hR.below hb))
  clear h3 hR
  go_enter Tryz.func152, Tryz.ntmps152
  go_wp2_with (first | (go_at_call 182; rw [← unhide HQ]; refine (unhide HT _).mono ?_; rintro e w1 ⟨rfl, hw⟩; obtain rfl := hw.symm) | (have hz5 := HB5; clear hz5; go_at_call 183; refine (unhide HS2 _).mono ?_; rintro e w6 ⟨rfl, hb6⟩; have HB6 := hide ((unhide HB5).trans (hb6.mono (unhide HB5).size)); have HX6 := hide ((unhide HX5).below (Nat.le_refl _) hb6); clear hb6) | (go_at_call 183; refine (unhide HS1 _).mono ?_; rintro e w5 ⟨rfl, hb5⟩; have HB5 := hide ((unhide HBQ).trans (hb5.mono (unhide HBQ).size)); have HX5 := hide ((unhide HBX).below (Nat.le_refl _) hb5); clear hb5) | (go_at_call 184; refine (unhide HP _).mono ?_; rintro e w1 ⟨rfl, hw⟩; obtain rfl := hw.symm) | (go_at_call 185; refine (unhide HA _ (unhide HB6)).mono ?_; rintro e w7 ⟨n, ty, p, rfl, hb7⟩; have HB7 := hide ((unhide HB6).trans (hb7.mono (unhide HB6).size)); obtain ⟨q0, q1, q2, q3, f0, f1, f2, f3⟩ := ((unhide HX6).below (Nat.le_refl _) hb7).all; clear hb7))
  refine bodyPost_ret (v := readV 0 0 ⟨#[]⟩ 0 7) (by simp [results, Tryz.results152, go_sem, q0, q1, q2, q3, readV]) rfl ?_
  exact ⟨rfl, (((((unhide HB7).setCell (Nat.le_refl _) _).setCell (Nat.le_refl _) _).setCell (Nat.le_refl _) _).setCell (Nat.le_refl _) _)⟩

end Go.Proofs.YtinndpnilmmmjaaGreatDoor
namespace Go.Proofs.YtinndpnilmmmjaaGreatDoor
open Go.RowKit

set_option maxRecDepth 20000 in
set_option maxHeartbeats 2000000 in
theorem readNumber_ok (t d r x : ByteArray) (H : Bool) (c l : Nat) (n : Nat) (w : World) (hH : high t 0 = H) (hd : (if H = true then t.extract 2 t.size else t) = d) (hc : stretchN isD d = c) (hr : d.extract c d.size = r) (hx : d.extract 0 c = x) (hl : stretchN isL r = l) (hs : t.size ≤ 17592186044416) (h0 : c ≠ 0) (h1 : l = 0) (h2 : high r 0 = false) (h3 : Lib.atoiAll x.data.toList = .ok (n : Int)) (h4 : n ≤ 1000000000000000) (hT : H = false) :
    Calls Tryz.prog 152 #[.string t] w fun e w' => e = .returned (readV 1 ((n : Int)) ⟨#[]⟩ (t.size - r.size) 0) ∧ Below w.heap.size w w' := by
  have hds : d.size ≤ t.size := by
    rw [← hd]
    by_cases hh : H = true
    · rw [if_pos hh, tail_size]; omega
    · rw [if_neg hh]; exact Nat.le_refl _
  have hle : c ≤ d.size := by rw [← hc]; exact strTo_le _ _
  have hrs : r.size ≤ d.size := by rw [← hr, tail_size]; omega
  have hxs : x.size ≤ d.size := by rw [← hx, ByteArray.size_extract]; omega
  have hlr : l ≤ r.size := by rw [← hl]; exact strTo_le _ _
  have hdt : d.size = t.size := by rw [← hd, hT, if_neg (by decide)]
  obtain ⟨Q, hQ⟩ : ∃ Q, Q = w.alloc (.cells #[.int .i64 0, .int .i64 0, .string ⟨#[]⟩, .int .i64 0] 64) := ⟨_, rfl⟩
  have HQ := hide hQ
  have HBX : Hid (TBox Q w.heap.size (.int .i64 0) (.int .i64 0) (.string ⟨#[]⟩) (.int .i64 0)) := by rw [hQ]; exact TBox.new w _ _ _ _
  have HBQ : Hid (Below w.heap.size w Q) := by rw [hQ]; exact (Below.refl _ _).alloc (Nat.le_refl _) _
  clear hQ
  have HT := hide (trimPre_any t)
  have HS1 := hide (fun W => stretch_any 151 eg_d isD (fun v W => implDigit_any v W) d W (by omega))
  have HS2 := hide (fun W => stretch_any 154 eg_l isL (fun v W => implLetter_any v W) r W (by omega))
  have HP := hide (hasPre_any r)
  have hsl := fun W => run_sub1 (s := d) (q := c) hle W
  have hsx := fun W => run_sub0 (s := d) (q := c) hle W
  rw [hH, hd] at HT
  rw [hc] at HS1
  rw [hl] at HS2
  rw [hr] at hsl
  rw [hx] at hsx
  clear hH hd hc hr hx hl
  have h0i : ¬ (c : Int) = 0 := by omega
  subst h1
  rw [h2] at HP
  clear h2
  have hlt : ¬ (d.size : Int) < (t.size : Int) := by omega
  have h4i : ¬ (1000000000000000 : Int) < (n : Int) := by omega
  have HA := hide (fun W => atoi_ok x n (by omega) h3 W)
  have hwd : ((t.size - r.size : Nat) : Int) = (t.size : Int) - (r.size : Int) := by omega
  clear h3 hT
  go_enter Tryz.func152, Tryz.ntmps152
  go_wp2_with (first | (go_at_call 182; rw [← unhide HQ]; refine (unhide HT _).mono ?_; rintro e w1 ⟨rfl, hw⟩; obtain rfl := hw.symm) | (have hz5 := HB5; clear hz5; go_at_call 183; refine (unhide HS2 _).mono ?_; rintro e w6 ⟨rfl, hb6⟩; have HB6 := hide ((unhide HB5).trans (hb6.mono (unhide HB5).size)); have HX6 := hide ((unhide HX5).below (Nat.le_refl _) hb6); clear hb6) | (go_at_call 183; refine (unhide HS1 _).mono ?_; rintro e w5 ⟨rfl, hb5⟩; have HB5 := hide ((unhide HBQ).trans (hb5.mono (unhide HBQ).size)); have HX5 := hide ((unhide HBX).below (Nat.le_refl _) hb5); clear hb5) | (go_at_call 184; refine (unhide HP _).mono ?_; rintro e w1 ⟨rfl, hw⟩; obtain rfl := hw.symm) | (go_at_call 185; refine (unhide HA _).mono ?_; rintro e w7 ⟨rfl, hb7⟩; have HB7 := hide ((unhide HB6).trans (hb7.mono (unhide HB6).size)); obtain ⟨q0, q1, q2, q3, f0, f1, f2, f3⟩ := ((unhide HX6).below (Nat.le_refl _) hb7).all; clear hb7))
  refine bodyPost_ret (v := readV 1 ((n : Int)) ⟨#[]⟩ (t.size - r.size) 0) (by simp [results, Tryz.results152, go_sem, q0, q1, q2, q3, readV, hwd]) rfl ?_
  exact ⟨rfl, (((((unhide HB7).setCell (Nat.le_refl _) _).setCell (Nat.le_refl _) _).setCell (Nat.le_refl _) _).setCell (Nat.le_refl _) _)⟩

end Go.Proofs.YtinndpnilmmmjaaGreatDoor
namespace Go.Proofs.YtinndpnilmmmjaaGreatDoor
open Go.RowKit

set_option maxRecDepth 20000 in
set_option maxHeartbeats 2000000 in
theorem readNumber_neg (t d r x : ByteArray) (H : Bool) (c l : Nat) (n : Nat) (w : World) (hH : high t 0 = H) (hd : (if H = true then t.extract 2 t.size else t) = d) (hc : stretchN isD d = c) (hr : d.extract c d.size = r) (hx : d.extract 0 c = x) (hl : stretchN isL r = l) (hs : t.size ≤ 17592186044416) (h0 : c ≠ 0) (h1 : l = 0) (h2 : high r 0 = false) (h3 : Lib.atoiAll x.data.toList = .ok (n : Int)) (h4 : n ≤ 1000000000000000) (hT : H = true) :
    Calls Tryz.prog 152 #[.string t] w fun e w' => e = .returned (readV 1 (-(n : Int)) ⟨#[]⟩ (t.size - r.size) 0) ∧ Below w.heap.size w w' := by
  have hds : d.size ≤ t.size := by
    rw [← hd]
    by_cases hh : H = true
    · rw [if_pos hh, tail_size]; omega
    · rw [if_neg hh]; exact Nat.le_refl _
  have hle : c ≤ d.size := by rw [← hc]; exact strTo_le _ _
  have hrs : r.size ≤ d.size := by rw [← hr, tail_size]; omega
  have hxs : x.size ≤ d.size := by rw [← hx, ByteArray.size_extract]; omega
  have hlr : l ≤ r.size := by rw [← hl]; exact strTo_le _ _
  have hdt : d.size < t.size := by
    have h2 := of_decide_eq_true (hH.trans hT)
    rw [← hd, hT, if_pos rfl, tail_size]
    omega
  obtain ⟨Q, hQ⟩ : ∃ Q, Q = w.alloc (.cells #[.int .i64 0, .int .i64 0, .string ⟨#[]⟩, .int .i64 0] 64) := ⟨_, rfl⟩
  have HQ := hide hQ
  have HBX : Hid (TBox Q w.heap.size (.int .i64 0) (.int .i64 0) (.string ⟨#[]⟩) (.int .i64 0)) := by rw [hQ]; exact TBox.new w _ _ _ _
  have HBQ : Hid (Below w.heap.size w Q) := by rw [hQ]; exact (Below.refl _ _).alloc (Nat.le_refl _) _
  clear hQ
  have HT := hide (trimPre_any t)
  have HS1 := hide (fun W => stretch_any 151 eg_d isD (fun v W => implDigit_any v W) d W (by omega))
  have HS2 := hide (fun W => stretch_any 154 eg_l isL (fun v W => implLetter_any v W) r W (by omega))
  have HP := hide (hasPre_any r)
  have hsl := fun W => run_sub1 (s := d) (q := c) hle W
  have hsx := fun W => run_sub0 (s := d) (q := c) hle W
  rw [hH, hd] at HT
  rw [hc] at HS1
  rw [hl] at HS2
  rw [hr] at hsl
  rw [hx] at hsx
  clear hH hd hc hr hx hl
  have h0i : ¬ (c : Int) = 0 := by omega
  subst h1
  rw [h2] at HP
  clear h2
  have hlt : (d.size : Int) < (t.size : Int) := by omega
  have h4i : ¬ (1000000000000000 : Int) < (n : Int) := by omega
  have HA := hide (fun W => atoi_ok x n (by omega) h3 W)
  have hwd : ((t.size - r.size : Nat) : Int) = (t.size : Int) - (r.size : Int) := by omega
  clear h3 hT
  go_enter Tryz.func152, Tryz.ntmps152
  go_wp2_with (first | (go_at_call 182; rw [← unhide HQ]; refine (unhide HT _).mono ?_; rintro e w1 ⟨rfl, hw⟩; obtain rfl := hw.symm) | (have hz5 := HB5; clear hz5; go_at_call 183; refine (unhide HS2 _).mono ?_; rintro e w6 ⟨rfl, hb6⟩; have HB6 := hide ((unhide HB5).trans (hb6.mono (unhide HB5).size)); have HX6 := hide ((unhide HX5).below (Nat.le_refl _) hb6); clear hb6) | (go_at_call 183; refine (unhide HS1 _).mono ?_; rintro e w5 ⟨rfl, hb5⟩; have HB5 := hide ((unhide HBQ).trans (hb5.mono (unhide HBQ).size)); have HX5 := hide ((unhide HBX).below (Nat.le_refl _) hb5); clear hb5) | (go_at_call 184; refine (unhide HP _).mono ?_; rintro e w1 ⟨rfl, hw⟩; obtain rfl := hw.symm) | (go_at_call 185; refine (unhide HA _).mono ?_; rintro e w7 ⟨rfl, hb7⟩; have HB7 := hide ((unhide HB6).trans (hb7.mono (unhide HB6).size)); obtain ⟨q0, q1, q2, q3, f0, f1, f2, f3⟩ := ((unhide HX6).below (Nat.le_refl _) hb7).all; clear hb7))
  refine bodyPost_ret (v := readV 1 (-(n : Int)) ⟨#[]⟩ (t.size - r.size) 0) (by simp [results, Tryz.results152, go_sem, q0, q1, q2, q3, readV, hwd]) rfl ?_
  exact ⟨rfl, (((((unhide HB7).setCell (Nat.le_refl _) _).setCell (Nat.le_refl _) _).setCell (Nat.le_refl _) _).setCell (Nat.le_refl _) _)⟩

end Go.Proofs.YtinndpnilmmmjaaGreatDoor
namespace Go.Proofs.YtinndpnilmmmjaaGreatDoor
open Go.RowKit

theorem enc_one (v c : Nat) (hc : c < 128) : Utf8.encode (v : Int) = ⟨#[UInt8.ofNat c]⟩ ↔ v = c := by
  constructor
  · intro h
    have hsz := congrArg (fun b : ByteArray => b.data.toList) h
    by_cases hv : Utf8.valid (v : Int) = true
    · by_cases h1 : v < 128
      · unfold Utf8.encode at hsz
        simp only [hv, if_true, Int.toNat_natCast, if_pos h1] at hsz
        have e := congrArg (fun l : List UInt8 => (l.headD 0).toNat) hsz
        change (UInt8.ofNat v).toNat = (UInt8.ofNat c).toNat at e
        rw [UInt8.toNat_ofNat', UInt8.toNat_ofNat'] at e
        omega
      · have := (encode_facts v hv (by omega)).1
        rw [h] at this
        exact absurd this (by show ¬ 2 ≤ 1; omega)
    · unfold Utf8.encode at hsz
      simp [hv, Utf8.runeError] at hsz
  · rintro rfl
    have hv : Utf8.valid (v : Int) = true := by unfold Utf8.valid; simp; omega
    unfold Utf8.encode
    simp only [hv, if_true, Int.toNat_natCast, if_pos hc]

theorem enc_high (v : Nat) : Utf8.encode (v : Int) = ⟨#[194, 175]⟩ ↔ v = 175 := by
  constructor
  · intro h
    have hsz := congrArg (fun b : ByteArray => b.data.toList) h
    by_cases hv : Utf8.valid (v : Int) = true
    · unfold Utf8.encode at hsz
      simp only [hv, if_true, Int.toNat_natCast] at hsz
      by_cases h1 : v < 128
      · rw [if_pos h1] at hsz; simp at hsz
      · rw [if_neg h1] at hsz
        by_cases h2 : v < 2048
        · rw [if_pos h2] at hsz
          have a := congrArg (fun l : List UInt8 => (l.headD 0).toNat) hsz
          have b := congrArg (fun l : List UInt8 => (l.tail.headD 0).toNat) hsz
          change (UInt8.ofNat (192 + v / 64)).toNat = 194 at a
          change (UInt8.ofNat (128 + v % 64)).toNat = 175 at b
          rw [UInt8.toNat_ofNat'] at a b
          omega
        · rw [if_neg h2] at hsz
          split at hsz <;> simp at hsz
    · unfold Utf8.encode at hsz
      simp [hv, Utf8.runeError] at hsz
  · rintro rfl
    decide

end Go.Proofs.YtinndpnilmmmjaaGreatDoor
