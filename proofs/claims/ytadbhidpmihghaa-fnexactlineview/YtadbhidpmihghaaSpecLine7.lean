import Derived.Test.YtadbhidpmihghaaSpecL7Line
namespace Go.Proofs.Ytadbhidpmihghaa
open Go.RowKit

set_option maxRecDepth 20000 in
set_option maxHeartbeats 2000000 in
theorem LineView_any (c : Int) (a1 a2 : Option Addr) (n1 n2 c1 c2 : Nat) (sh st : List Int) (w : World) (h1 : Row w a1 n1 sh) (h2 : Row w a2 n2 st) :
    Calls Try.prog 21 #[.agg #[.int .i64 c, .slice a1 n1 c1, .slice a2 n2 c2]] w fun e w' => e = .returned (.tuple #[.int .i64 (lineV c sh st).1, .bool (lineV c sh st).2]) ∧ Below w.heap.size w w' := by
  have hl1 := hide h1.len
  have hl2 := hide h2.len
  have H1 := hide h1
  have H2 := hide h2
  clear h1 h2
  obtain ⟨r, hr⟩ : ∃ r, formed c sh st = r := ⟨_, rfl⟩
  have HR := hide hr
  clear hr
  obtain ⟨W, hW⟩ : ∃ W, W = w.alloc (.cells #[.int .i64 c, .slice a1 n1 c1, .slice a2 n2 c2] 24) := ⟨_, rfl⟩
  have HW := hide hW
  have HX : Hid (VBox W w.heap.size c (.slice a1 n1 c1) (.slice a2 n2 c2)) := by rw [hW]; exact VBox.new w _ _ _
  have HBW : Hid (Below w.heap.size w W) := by rw [hW]; exact (Below.refl _ w).alloc (Nat.le_refl _) _
  have H1W := hide (H1.out.below (Nat.le_refl _) HBW.out)
  have H2W := hide (H2.out.below (Nat.le_refl _) HBW.out)
  clear hW
  cases r with
  | false =>
    have HE := hide (lineV_no HR.out)
    go_enter Try.func21, Try.ntmps21
    go_wp2_with (go_at_call 36; rw [← HW.out]; refine (l7Formed_eq c a1 a2 n1 n2 c1 c2 sh st _ H1W.out H2W.out _ HR).mono ?_; rintro e w1 ⟨rfl, hb1⟩; have HB1 := hide hb1; clear hb1)
    go_ret2
    exact ⟨ret_line HE.out rfl rfl, HBW.out.trans (HB1.out.mono HBW.out.size)⟩
  | true =>
    have hsb := (formed_parts HR.out).1
    have hcnt := shapeB_count hsb
    obtain ⟨N, hN⟩ : ∃ N : Nat, countOf sh = (N : Int) := ⟨(countOf sh).toNat, by omega⟩
    have HN := hide hN
    have hnn : n2 = n1 := by rw [← hl1.out, ← hl2.out]; exact (formed_parts HR.out).2.1
    subst hnn
    have HE := hide (lineV_go HR.out)
    have HPB : Hid (∀ k, k < N → -1000000000000 ≤ (placesOf c sh st).getD k 0 ∧ (placesOf c sh st).getD k 0 ≤ 1000000000000) := fun k hk => by rw [placesOf_get c sh st N k hN hk]; exact placeOf_bd HR.out N hN k hk
    obtain ⟨ps, hps⟩ : ∃ ps, ps = placesOf c sh st := ⟨_, rfl⟩
    rw [← hps] at HPB HE
    have HPS := hide hps
    clear hsb hcnt hN hps
    obtain ⟨rr, hrr⟩ : ∃ rr, rr = lineL ps := ⟨_, rfl⟩
    rw [← hrr] at HE
    obtain ⟨r1, r2⟩ := rr
    have HRR := hide hrr
    clear hrr
    go_enter Try.func21, Try.ntmps21
    go_wp2_with (first | (go_at_call 36; rw [← HW.out]; refine (l7Formed_eq c a1 a2 n2 n2 c1 c2 sh st _ H1W.out H2W.out _ HR).mono ?_; rintro e w1 ⟨rfl, hb1⟩; have HB1 := hide hb1; obtain ⟨x0, x1, x2, x3, x4, x5, x6⟩ := (HX.out.below (Nat.le_refl _) hb1).all; clear hb1) | (go_at_call 37; refine (l7Places_any c a1 a2 n2 c1 c2 sh st _ (H1W.out.below (Nat.le_refl _) HB1.out) (H2W.out.below (Nat.le_refl _) HB1.out) HR.out N HN.out).mono ?_; rintro e w2 ⟨g, k, rfl, ho, hb2⟩; rw [← HPS.out] at ho; have HO := hide ho.row; have HB2 := hide hb2; clear ho hb2) | (go_at_call 42; refine (l7Line_any _ _ _ ps _ HO.out HPB.out).mono ?_; rw [← HRR.out]; rintro e w3 ⟨rfl, hb3⟩; have HB3 := hide hb3; clear hb3))
    go_ret2
    exact ⟨ret_line HE.out rfl rfl, HBW.out.trans ((HB1.out.trans ((HB2.out.mono HB1.out.size).trans (HB3.out.mono (Nat.le_trans HB1.out.size HB2.out.size)))).mono HBW.out.size)⟩

end Go.Proofs.Ytadbhidpmihghaa
