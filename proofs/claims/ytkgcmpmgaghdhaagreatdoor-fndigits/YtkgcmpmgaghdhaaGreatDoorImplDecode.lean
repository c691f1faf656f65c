import Derived.Test.YtkgcmpmgaghdhaaGreatDoorImplDecOps
import Derived.Test.YtkgcmpmgaghdhaaGreatDoorImplExt
import Derived.Test.YtkgcmpmgaghdhaaGreatDoorImplJointT
import Derived.Test.YtkgcmpmgaghdhaaGreatDoorMFit2
import Derived.Test.YtkgcmpmgaghdhaaGreatDoorCellsN
import Derived.Test.YtkgcmpmgaghdhaaGreatDoorStripAt
import Derived.Test.YtkgcmpmgaghdhaaGreatDoorMFit0
namespace Go.Proofs.YtkgcmpmgaghdhaaGreatDoor
open Go.RowKit Go.Shelf

/-- The first of two numbers that is not 0. -/
def orOf (x y : Int) : Int := if x ≠ 0 then x else y

set_option maxHeartbeats 1000000 in
theorem or_any (x y : Int) (g : Nat) (w : World) (h0 : w.cell? ⟨g, 0, none⟩ = some (.int .i64 x)) (h1 : w.cell? ⟨g, 1, none⟩ = some (.int .i64 y)) :
    Calls Tryz.prog 82 #[.slice (some ⟨g, 0, none⟩) 2 2] w fun e w' => e = .returned (.int .i64 (orOf x y)) ∧ w' = w := by
  by_cases hx : x = 0
  · subst hx
    by_cases hy : y = 0
    · subst hy
      go_enter Tryz.func82, Tryz.ntmps82
      go_wp2
      refine wp_loop_rounds 3 ?_
      rw [rounds_succ]
      go_wp2
      rw [rounds_succ]
      go_wp2
      rw [rounds_succ]
      go_wp2
      go_ret
      exact ⟨rfl, rfl⟩
    · have q : (y != 0) = true := by simp [hy]
      have HE : Hid (orOf 0 y = y) := by show _ = _; simp [orOf]
      clear hy
      go_enter Tryz.func82, Tryz.ntmps82
      go_wp2
      refine wp_loop_rounds 2 ?_
      rw [rounds_succ]
      go_wp2
      rw [rounds_succ]
      go_wp2
      go_ret
      exact ⟨by rw [unhide HE]; rfl, rfl⟩
  · have q : (x != 0) = true := by simp [hx]
    have HE : Hid (orOf x y = x) := by show _ = _; simp [orOf, hx]
    clear hx
    go_enter Tryz.func82, Tryz.ntmps82
    go_wp2
    refine wp_loop_rounds 1 ?_
    rw [rounds_succ]
    go_wp2
    go_ret
    exact ⟨by rw [unhide HE]; rfl, rfl⟩

/-- A step of the number. -/
theorem dec_next {dt dt' : List Int} {n2 m2 k : Nat} {v : Int} (h : decStep dt dt' n2 m2 k = some v) :
    ((∃ r, twoOf 3 v (dt.getD (k % n2) 0) = (r, 0) ∧ -1000000000000000 ≤ r ∧ r ≤ 1000000000000000 ∧ ((limited (r + dt'.getD (k % m2) 0, true) = (r + dt'.getD (k % m2) 0, 0) ∧ decStep dt dt' n2 m2 (k + 1) = some (r + dt'.getD (k % m2) 0) ∧ inM (r + dt'.getD (k % m2) 0) = true) ∨ (limited (r + dt'.getD (k % m2) 0, true) = (0, 7) ∧ decStep dt dt' n2 m2 (k + 1) = none))) ∨ (twoOf 3 v (dt.getD (k % n2) 0) = (0, 7) ∧ decStep dt dt' n2 m2 (k + 1) = none)) := by
  obtain ⟨r1, r2, hr⟩ : ∃ r1 r2, timesOf v (dt.getD (k % n2) 0) = (r1, r2) := ⟨_, _, rfl⟩
  have hs := dec_step h hr
  have hb := times_bd hr
  have e3 : twoOf 3 v (dt.getD (k % n2) 0) = limited (timesOf v (dt.getD (k % n2) 0)) := rfl
  rw [hs, e3, hr]
  cases r2 with
  | false => exact .inr ⟨by unfold limited; simp, by simp⟩
  | true =>
    refine .inl ⟨r1, ?_, hb.1, hb.2, ?_⟩
    · unfold limited; rw [if_pos ⟨rfl, inM_of hb.1 hb.2⟩]
    · cases hm : inM (r1 + dt'.getD (k % m2) 0) with
      | true => exact .inl ⟨by unfold limited; rw [if_pos ⟨rfl, hm⟩], by simp, rfl⟩
      | false => exact .inr ⟨by unfold limited; rw [if_neg (fun hh => by have h2 : inM (r1 + dt'.getD (k % m2) 0) = true := hh.2; rw [hm] at h2; cases h2)], by simp⟩

theorem dec_in {dt dt' : List Int} {n2 m2 : Nat} : ∀ {k : Nat} {v : Int}, decStep dt dt' n2 m2 k = some v → inM v = true
  | 0, v, h => by cases h; rfl
  | k + 1, v, h => by
    rw [decStep] at h
    cases hd : decStep dt dt' n2 m2 k with
    | none => rw [hd] at h; cases h
    | some u =>
      rw [hd] at h
      dsimp only at h
      split at h
      · rename_i hc; cases h; exact hc.2
      · cases h

/-- What decoded gives: the number, or nothing and errTooGreat. -/
def decEl (r : Option Int) : Int × Int := match r with | some v => (v, 0) | none => (0, 7)

set_option maxRecDepth 20000 in
set_option maxHeartbeats 4000000 in
theorem decoded_any (ga gb : Addr) (a2 b2 : Option Addr) (n2 m2 c2 d2 z s1 s2 m : Nat) (dt dt' : List Int) (w : World) (h2 : Row w a2 n2 dt) (k2 : Row w b2 m2 dt') (hG : GlD w ga gb) (hm : m ≤ 10000)
    (ht : ∀ k, k < m → z + k * s1 < n2 ∧ dt.getD (z + k * s1) 0 = dt.getD (k % n2) 0) (ht' : ∀ k, k < m → z + k * s2 < m2 ∧ dt'.getD (z + k * s2) 0 = dt'.getD (k % m2) 0) (hb : ∀ k, -1000000000000000 ≤ dt.getD k 0 ∧ dt.getD k 0 ≤ 1000000000000000) (hb' : ∀ k, -1000000000000000 ≤ dt'.getD k 0 ∧ dt'.getD k 0 ≤ 1000000000000000) :
    Calls Tryz.prog 84 #[.agg #[.slice a2 n2 c2, .int .i64 (z : Nat), .int .i64 (s1 : Nat), .int .i64 (m : Nat)], .agg #[.slice b2 m2 d2, .int .i64 (z : Nat), .int .i64 (s2 : Nat), .int .i64 (m : Nat)]] w fun e w' => e = .returned (.tuple #[.int .i64 (decEl (decStep dt dt' n2 m2 m)).1, errV ga gb (decEl (decStep dt dt' n2 m2 m)).2]) ∧ Below w.heap.size w w' := by
  have H2 := hide h2
  have K2 := hide k2
  have HG := hide hG
  have HT := hide ht
  have HT' := hide ht'
  have HBD := hide hb
  have HBD' := hide hb'
  clear h2 k2 hG ht ht' hb hb'
  obtain ⟨W, hW⟩ : ∃ W, W = (w.alloc (.cells #[.slice a2 n2 c2, .int .i64 (z : Nat), .int .i64 (s1 : Nat), .int .i64 (m : Nat)] 68)).alloc (.cells #[.slice b2 m2 d2, .int .i64 (z : Nat), .int .i64 (s2 : Nat), .int .i64 (m : Nat)] 68) := ⟨_, rfl⟩
  have HX : Hid (SBox W w.heap.size a2 n2 c2 z s1 m) := by rw [hW]; exact (SBox.new w _ _ _ _ _ _).alloc _
  have HY : Hid (SBox W (w.heap.size + 1) b2 m2 d2 z s2 m) := by
    rw [hW]
    have := SBox.new (w.alloc (.cells #[.slice a2 n2 c2, .int .i64 (z : Nat), .int .i64 (s1 : Nat), .int .i64 (m : Nat)] 68)) b2 m2 d2 z s2 m
    exact hide (by simpa using this)
  have HB0 : Hid (Below w.heap.size w W) := by rw [hW]; exact ((Below.refl _ w).alloc (Nat.le_refl _) _).alloc (by simp) _
  go_enter Tryz.func84, Tryz.ntmps84
  go_wp2_with fail
  rw [← hW]
  clear hW
  obtain ⟨z0, z1, z2, z3⟩ := (unhide HX).cells
  go_wp2_with fail
  clear z0 z1 z2 z3
  go_loopw [6, 12] (fun v i wr => ∃ (k : Nat) (x : Int), k ≤ m ∧ i = .int .i64 (k : Nat) ∧ v = .int .i64 x ∧ Hid (decStep dt dt' n2 m2 k = some x) ∧ Hid (Below W.heap.size W wr)) (fun _ i _ => m - (intOf i).toNat)
  case atStart => exact ⟨0, 0, Nat.zero_le _, rfl, rfl, rfl, hide (Below.refl _ _)⟩
  case round =>
    obtain ⟨k, x, hk, rfl, rfl, hst, hbr⟩ := hrel
    have hBw := hide ((unhide HB0).trans ((unhide hbr).mono (unhide HB0).size))
    by_cases hlt : k < m
    · obtain ⟨x0, x1, x2, x3⟩ := ((unhide HX).below (Nat.le_refl _) (unhide hbr)).cells
      obtain ⟨y0, y1, y2, y3⟩ := ((unhide HY).below (Nat.le_refl _) (unhide hbr)).cells
      obtain ⟨t1, t2⟩ := unhide HT k hlt
      obtain ⟨u1, u2⟩ := unhide HT' k hlt
      have hxl := ((unhide HX).below (Nat.le_refl _) (unhide hbr)).lt
      have hyl := ((unhide HY).below (Nat.le_refl _) (unhide hbr)).lt
      have hkz : (k : Int) < (m : Int) := by omega
      have hxin := inM_bd (dec_in (unhide hst))
      have hcall := fun V (hV : Below wr.heap.size wr V) => at_any a2 n2 c2 z s1 m k dt V ((unhide H2).below (Nat.le_refl _) ((unhide hBw).trans (hV.mono (unhide hBw).size))) t1
      have hcall' := fun V (hV : Below wr.heap.size wr V) => at_any b2 m2 d2 z s2 m k dt' V ((unhide K2).below (Nat.le_refl _) ((unhide hBw).trans (hV.mono (unhide hBw).size))) u1
      have hmul := fun V (hV : Below wr.heap.size wr V) => opMulD x (dt.getD (k % n2) 0) ga gb V ((unhide HG).below ((unhide hBw).trans (hV.mono (unhide hBw).size))) hxin (unhide HBD _)
      have hlim := fun V (hV : Below wr.heap.size wr V) (y : Int) => limitedD_any y ga gb V ((unhide HG).below ((unhide hBw).trans (hV.mono (unhide hBw).size)))
      have hbk' := unhide HBD' (k % m2)
      have hnx := dec_next (unhide hst)
      rw [t2] at hcall
      rw [u2] at hcall'
      obtain ⟨B, hB⟩ : ∃ B, dt.getD (k % n2) 0 = B := ⟨_, rfl⟩
      obtain ⟨D, hD⟩ : ∃ D, dt'.getD (k % m2) 0 = D := ⟨_, rfl⟩
      rw [hB] at hcall hmul hnx
      rw [hD] at hcall' hbk' hnx
      have HC := hide hcall
      have HC' := hide hcall'
      have HM := hide hmul
      have HL := hide hlim
      clear hcall hcall' hmul hlim t1 t2 u1 u2 hB hD
      rcases hnx with ⟨r, h3, hr1, hr2, hnx⟩ | ⟨h3, hnone⟩
      · have hw1 : IntKind.i64.wrap (r + D) = r + D := by rw [IntKind.wrap_i64]; omega
        have H3 := hide h3
        rcases hnx with ⟨hlm, hsome, _⟩ | ⟨hlm, hnone⟩
        · have HLM := hide hlm
          have HSM := hide hsome
          clear h3 hlm hsome
          go_wp2_with (first
            | (go_at_call_of 121 (Value.slice a2 n2 c2); refine (unhide HC wr (Below.refl _ _)).mono ?_; rintro e w3 ⟨rfl, hb3⟩; have hy3 := ((unhide HY).below (Nat.le_refl _) ((unhide hbr).trans (hb3.mono (unhide hbr).size))).cells; obtain ⟨y0, y1, y2, y3⟩ := hy3; have HB3 := hide hb3; clear hb3)
            | (go_at_call 134; refine (unhide HM _ (unhide HB3)).mono ?_; rw [unhide H3]; rintro e w4 ⟨rfl, q4, rfl⟩; simp only [errV_0]; have HB4 := hide (Below.drewN (unhide HB3) q4))
            | (go_at_call_of 121 (Value.slice b2 m2 d2); refine (unhide HC' _ (unhide HB4)).mono ?_; rintro e w5 ⟨rfl, hb5⟩; have HB5 := hide ((unhide HB4).trans (hb5.mono (unhide HB4).size)); clear hb5)
            | (go_at_call 135; refine (unhide HL _ (unhide HB5) _).mono ?_; rw [unhide HLM]; rintro e w6 ⟨rfl, q6, rfl⟩; simp only [errV_0]; have HB6 := hide ((unhide hbr).trans ((Below.drewN (unhide HB5) q6).mono (unhide hbr).size))))
          go_roundw
          case rel => exact ⟨k + 1, r + D, by omega, by go_num, rfl, HSM, HB6⟩
          case measure => simp [intOf]; omega
        · have HLM := hide hlm
          have HSM := hide (dec_none hnone (by omega : k + 1 ≤ m))
          clear h3 hlm hnone
          go_wp2_with (first
            | (go_at_call_of 121 (Value.slice a2 n2 c2); refine (unhide HC wr (Below.refl _ _)).mono ?_; rintro e w3 ⟨rfl, hb3⟩; have hy3 := ((unhide HY).below (Nat.le_refl _) ((unhide hbr).trans (hb3.mono (unhide hbr).size))).cells; obtain ⟨y0, y1, y2, y3⟩ := hy3; have HB3 := hide hb3; clear hb3)
            | (go_at_call 134; refine (unhide HM _ (unhide HB3)).mono ?_; rw [unhide H3]; rintro e w4 ⟨rfl, q4, rfl⟩; simp only [errV_0]; have HB4 := hide (Below.drewN (unhide HB3) q4))
            | (go_at_call_of 121 (Value.slice b2 m2 d2); refine (unhide HC' _ (unhide HB4)).mono ?_; rintro e w5 ⟨rfl, hb5⟩; have HB5 := hide ((unhide HB4).trans (hb5.mono (unhide HB4).size)); clear hb5)
            | (go_at_call 135; refine (unhide HL _ (unhide HB5) _).mono ?_; rw [unhide HLM]; rintro e w6 ⟨rfl, q6, rfl⟩; simp only [errV_7]; have HB6 := hide ((unhide hBw).trans ((Below.drewN (unhide HB5) q6).mono (unhide hBw).size))))
          go_ret2
          rw [unhide HSM]
          exact ⟨rfl, unhide HB6⟩
      · have H3 := hide h3
        have HSM := hide (dec_none hnone (by omega : k + 1 ≤ m))
        clear h3 hnone
        go_wp2_with (first
          | (go_at_call_of 121 (Value.slice a2 n2 c2); refine (unhide HC wr (Below.refl _ _)).mono ?_; rintro e w3 ⟨rfl, hb3⟩; have HB3 := hide hb3; clear hb3)
          | (go_at_call 134; refine (unhide HM _ (unhide HB3)).mono ?_; rw [unhide H3]; rintro e w4 ⟨rfl, q4, rfl⟩; simp only [errV_7]; have HB4 := hide ((unhide hBw).trans ((Below.drewN (unhide HB3) q4).mono (unhide hBw).size))))
        go_ret2
        rw [unhide HSM]
        exact ⟨rfl, unhide HB4⟩
    · have e : k = m := by omega
      subst k
      clear hlt
      go_wp2_with fail
      go_ret2
      rw [unhide hst]
      exact ⟨rfl, unhide hBw⟩

end Go.Proofs.YtkgcmpmgaghdhaaGreatDoor
