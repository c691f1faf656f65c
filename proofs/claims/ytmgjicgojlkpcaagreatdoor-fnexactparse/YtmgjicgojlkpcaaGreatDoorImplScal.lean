import Derived.Test.YtmgjicgojlkpcaaGreatDoorImplRead
import Derived.Test.YtmgjicgojlkpcaaGreatDoorImplFields
namespace Go.Proofs.YtmgjicgojlkpcaaGreatDoor
open Go.RowKit

theorem scal_is (c : Nat) : (isSc ((primNo c : Nat) : Int) = true ∧ scalNo c = primNo c) ∨ (isSc ((primNo c : Nat) : Int) = false ∧ scalNo c = 0) := by
  unfold isSc scalNo
  by_cases h : primNo c ≤ 16
  · rw [if_pos h]
    by_cases h0 : primNo c = 0
    · exact .inr ⟨decide_eq_false (by omega), h0⟩
    · exact .inl ⟨decide_eq_true (by omega), rfl⟩
  · rw [if_neg h]
    exact .inr ⟨decide_eq_false (by omega), rfl⟩

set_option maxRecDepth 20000 in
set_option maxHeartbeats 2000000 in
theorem scalOf_any (y : Tok) (hy : TokOk y ∨ y.k = 0) (w : World) (hG : GlT w) :
    Calls Tryz.prog 162 #[tokW y] w fun e w' => e = .returned (.int .i64 (scalNo (clT y) : Nat)) ∧ Below w.heap.size w w' := by
  have HP : Hid (∀ W, Below w.heap.size w W → Calls Tryz.prog 193 #[tokW y] W fun e w' => e = .returned (.int .i64 (primNo (clT y) : Nat)) ∧ Below W.heap.size W w') := fun W hW => primOf_any y hy W (hG.below hW)
  have hs := scal_is (clT y)
  obtain ⟨N, hN⟩ : ∃ N, primNo (clT y) = N := ⟨_, rfl⟩
  obtain ⟨M, hM⟩ : ∃ N, scalNo (clT y) = N := ⟨_, rfl⟩
  rw [hN, hM] at hs
  rw [hN] at HP
  rw [hM]
  obtain ⟨yk, yn, yt, yp⟩ := y
  unfold tokW at HP ⊢
  clear hN hM hy hG
  rcases hs with ⟨h1, rfl⟩ | ⟨h1, rfl⟩
  all_goals
    have HC := hide (fun v => scOk _ _ h1 v)
    clear h1
    go_enter Tryz.func162, Tryz.ntmps162
    go_wp2_with (first | (go_at_call 193; refine (unhide HP _ ((Below.refl _ _).alloc (Nat.le_refl _) _)).mono ?_; rintro e w5 ⟨rfl, hb5⟩; have HB5 := hide (((Below.refl _ _).alloc (Nat.le_refl _) _ : Below w.heap.size w _).trans (hb5.mono (by simp))); clear hb5) | (go_at_call 62; refine (unhide HC _).mono ?_; rintro e w6 ⟨rfl, rfl⟩))
    go_ret
    exact ⟨rfl, unhide HB5⟩

section
variable {Z : World} {ta : Option Addr} {tn : Nat} {ts : List Tok} {bytes : Nat} {p tc : Nat} {w : World} {i : Nat} {nd : Value} {xs : List NodeC}

theorem scalP (E : IEnv Z ta tn ts bytes) (q : Nat) {W : World} (hW : Below Z.heap.size Z W) :
    Calls Tryz.prog 162 #[tokW (tokA ts bytes q)] W fun e w' => e = .returned (.int .i64 (scalNo ((seenT ts).cl q) : Nat)) ∧ Below W.heap.size W w' := by
  have := scalOf_any (tokA ts bytes q) (tokA_ok E.ok bytes q) W (E.gl.1.below hW)
  rw [tokA_cl] at this
  exact this

theorem primP (E : IEnv Z ta tn ts bytes) (q : Nat) {W : World} (hW : Below Z.heap.size Z W) :
    Calls Tryz.prog 193 #[tokW (tokA ts bytes q)] W fun e w' => e = .returned (.int .i64 (primNo ((seenT ts).cl q) : Nat)) ∧ Below W.heap.size W w' := by
  have := primOf_any (tokA ts bytes q) (tokA_ok E.ok bytes q) W (E.gl.1.below hW)
  rw [tokA_cl] at this
  exact this

theorem clT_name {y : Tok} (hy : TokOk y ∨ y.k = 0) : (y.k = 3 → 0 < y.t.size) ∧ (decide (y.k = 3) && decide (bt y.t 0 ≤ 90)) = decide (clT y = 4) ∧ (decide (y.k = 3) && decide (97 ≤ bt y.t 0)) = decide (clT y = 3) := by
  unfold clT
  rcases hy with (⟨h, _⟩ | h | ⟨h, hs, hl⟩ | ⟨h, c, hc, ht⟩) | h
  · simp [h]
  · simp [h]
  · refine ⟨fun _ => hs, ?_, ?_⟩
    · rw [h]
      simp
    · rw [h]
      simp
      omega
  · have hge : 40 ≤ c := of_decide_eq_true (List.all_eq_true.mp sign_ge c hc)
    have e := signOf_at hc
    rw [← ht] at e
    simp [h, e]
    omega
  · simp [h]

theorem highP (E : IEnv Z ta tn ts bytes) (q : Nat) (W : World) :
    Calls Tryz.prog 61 #[tokW (tokA ts bytes q)] W fun e w' => e = .returned (.bool (decide ((seenT ts).cl q = 4))) ∧ Below W.heap.size W w' := by
  obtain ⟨h1, h2, _⟩ := clT_name (tokA_ok E.ok bytes q)
  rw [tokA_cl] at h2
  exact isHighT_any _ _ _ _ _ h1 h2 W

theorem lowP (E : IEnv Z ta tn ts bytes) (q : Nat) (W : World) :
    Calls Tryz.prog 60 #[tokW (tokA ts bytes q)] W fun e w' => e = .returned (.bool (decide ((seenT ts).cl q = 3))) ∧ Below W.heap.size W w' := by
  obtain ⟨h1, _, h2⟩ := clT_name (tokA_ok E.ok bytes q)
  rw [tokA_cl] at h2
  exact isLowT_any _ _ _ _ _ h1 h2 W

set_option maxRecDepth 20000 in
set_option maxHeartbeats 2000000 in
/-- An sfn alone. -/
theorem scalarP (E : IEnv Z ta tn ts bytes) (h : IPS Z p ta tn tc bytes w i nd xs) (hi : i ≤ 4200) :
    Calls Tryz.prog 241 #[.pointer (some ⟨p, 0, none⟩)] w fun e w' =>
      (0 < scalNo ((seenT ts).cl i) ∧ e = .returned (.tuple #[.int .i64 (scalNo ((seenT ts).cl i) : Nat), .nilIface]) ∧ IPS Z p ta tn tc bytes w' (i + 1) nd xs ∧ PBut p nd w w') ∨
      (scalNo ((seenT ts).cl i) = 0 ∧ ∃ b, e = .returned (.tuple #[.int .i64 0, faultV b]) ∧ IsFault w' b (tokA ts bytes i).p ∧ Below Z.heap.size Z w') := by
  have HA := hide (fun W hW => aheadP E h hi (W := W) hW 0 (by omega))
  rw [Nat.add_zero] at HA
  have HS := hide (fun W hW => scalP E i (W := W) hW)
  have HE := hide E
  have H := hide h
  obtain ⟨y, hy⟩ : ∃ y, tokW (tokA ts bytes i) = y := ⟨_, rfl⟩
  rw [hy] at HA HS
  clear hy
  obtain ⟨N, hN⟩ : ∃ N, scalNo ((seenT ts).cl i) = N := ⟨_, rfl⟩
  rw [hN] at HS ⊢
  clear hN h
  by_cases h0 : N = 0
  case pos =>
    subst h0
    go_enter Tryz.func241, Tryz.ntmps241
    go_wp2_with (first | (go_at_call 158; refine (unhide HA _ (Below.refl _ _)).mono ?_; rintro e w5 ⟨rfl, hb5⟩; have H5 := hide ((unhide H).below hb5); clear hb5) | (go_at_call 162; refine (unhide HS _ (unhide H5).low).mono ?_; rintro e w6 ⟨rfl, hb6⟩; have H6 := hide ((unhide H5).below hb6); clear hb6) | (go_at_call 103; refine (refuseP (unhide HE) (unhide H6) hi).mono ?_; rintro e w7 ⟨b, rfl, hf, hbb, hb7⟩; have HF := hide hf; have HB7 := hide ((unhide H6).low.trans (hb7.mono (unhide H6).low.size)); clear hf hbb hb7))
    go_ret2
    exact .inr ⟨trivial, b, rfl, unhide HF, unhide HB7⟩
  case neg =>
    have hd : (((N : Nat) : Int) == 0) = false := by simpa using h0
    have hw1 : IntKind.i64.wrap ((i : Int) + 1) = (i : Int) + 1 := by rw [IntKind.wrap_i64]; omega
    have HN : Hid (0 < N) := Nat.pos_of_ne_zero h0
    clear h0
    go_enter Tryz.func241, Tryz.ntmps241
    go_wp2_with (first | (go_at_call 158; refine (unhide HA _ (Below.refl _ _)).mono ?_; rintro e w5 ⟨rfl, hb5⟩; have H5 := hide ((unhide H).below hb5); have HB5 := hide hb5; clear hb5) | (go_at_call 162; refine (unhide HS _ (unhide H5).low).mono ?_; rintro e w6 ⟨rfl, hb6⟩; have h6 := (unhide H5).below hb6; obtain ⟨p0, p1, p2, p3, f0, f1, f2, f3, hpl⟩ := h6.all; have H6 := hide h6; have HB6 := hide ((unhide HB5).trans (hb6.mono (unhide HB5).size)); clear hb6 h6))
    go_ret2
    have hs := (unhide H6).setAt (i + 1)
    have e : ((i + 1 : Nat) : Int) = (i : Int) + 1 := by omega
    rw [e] at hs
    exact .inl ⟨unhide HN, rfl, hs.1, (PBut.of_below (unhide HB6)).trans (.inl rfl) hs.2⟩

end
end Go.Proofs.YtmgjicgojlkpcaaGreatDoor
