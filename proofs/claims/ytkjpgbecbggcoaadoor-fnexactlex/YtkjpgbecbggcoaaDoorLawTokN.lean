import Derived.Test.YtkjpgbecbggcoaaDoorLawTokM
namespace Go.Proofs.YtkjpgbecbggcoaaDoor
open Go.RowKit

theorem setOther {W : World} {g x y : Nat} {v : Value} (h : x ≠ y) : (W.setCell ⟨g, y, none⟩ v).cell? ⟨g, x, none⟩ = W.cell? ⟨g, x, none⟩ := World.cell?_setCell_other _ _ _ _ (fun e => h (congrArg Addr.off e).symm)

set_option maxRecDepth 20000 in
set_option maxHeartbeats 4000000 in
theorem markTokenS_any (a : Option Addr) (n cap B : Nat) (ts : List Tok) (k : Nat) (w : World) (h : OwnT w B a n ts) (hk1 : 1 ≤ k) (hk : k ≤ 1048576) (hn : n ≤ 1048576) :
    Calls Tryd.prog 11 #[.slice a n cap, .int .i64 (k : Nat)] w fun e w' => e = .returned (.int .i64 ((k + 4 * n : Nat) : Int)) ∧ OwnT w' B a n (marksT k n) ∧ But (At a n) w w' := by
  by_cases h0 : n = 0
  · subst h0
    go_enter Tryd.func11, Tryd.ntmps11
    go_wp2_with fail
    go_loopw [1, 5] (fun c i wr => c = .int .i64 (k : Nat) ∧ i = .int .i64 0 ∧ wr = w) (fun _ _ _ => 0)
    case atStart => exact ⟨rfl, rfl, rfl⟩
    case round =>
      obtain ⟨rfl, rfl, rfl⟩ := hrel
      go_wp2
      go_ret
      exact ⟨rfl, ⟨rfl, .inl rfl⟩, But.refl _ _⟩
  obtain ⟨g, off, rfl, hg, hgl, hc, hf⟩ : ∃ g off, a = some ⟨g, off, none⟩ ∧ B ≤ g ∧ g < w.heap.size ∧ (∀ i, i < 4 * n → w.cell? ⟨g, off + i, none⟩ = (ts.flatMap tokCells)[i]?) ∧ (∀ i, i < 4 * n → w.frozen? ⟨g, off + i, none⟩ = false) := h.at_.resolve_left h0
  have HS0 : Hid (MkS w g off n k 0 w) := ⟨But.refl _ _, hgl, fun i hi => absurd hi (by omega), fun i hi => by rw [hc i hi, List.getElem?_eq_getElem (by rw [cells_len, h.len]; exact hi)]; rfl, hf⟩
  clear h hc hf
  go_enter Tryd.func11, Tryd.ntmps11
  go_wp2_with fail
  go_loopw [1, 5] (fun c i wr => ∃ j x : Nat, j ≤ n ∧ i = .int .i64 (j : Nat) ∧ c = .int .i64 (x : Nat) ∧ x = k + 4 * j ∧ Hid (MkS w g off n k j wr)) (fun _ i _ => n - (intOf i).toNat)
  case atStart => exact ⟨0, k, Nat.zero_le _, rfl, rfl, by omega, HS0⟩
  case round =>
    obtain ⟨j, x, hj, rfl, rfl, hx, HS⟩ := hrel
    clear HS0
    by_cases hlt : j < n
    · have s0 := (unhide HS).has (4 * j) (by omega)
      have s1 := (unhide HS).has (4 * j + 1) (by omega)
      have s2 := (unhide HS).has (4 * j + 2) (by omega)
      have s3 := (unhide HS).has (4 * j + 3) (by omega)
      have f0 := (unhide HS).free (4 * j) (by omega)
      have f1 := (unhide HS).free (4 * j + 1) (by omega)
      have f2 := (unhide HS).free (4 * j + 2) (by omega)
      have f3 := (unhide HS).free (4 * j + 3) (by omega)
      rw [show off + 4 * j = off + j * 4 by omega] at s0 f0
      rw [show off + (4 * j + 1) = off + j * 4 + 1 by omega] at s1 f1
      rw [show off + (4 * j + 2) = off + j * 4 + 2 by omega] at s2 f2
      rw [show off + (4 * j + 3) = off + j * 4 + 3 by omega] at s3 f3
      obtain ⟨u0, e0⟩ := Option.isSome_iff_exists.mp s0
      obtain ⟨u1, e1⟩ := Option.isSome_iff_exists.mp s1
      obtain ⟨u2, e2⟩ := Option.isSome_iff_exists.mp s2
      obtain ⟨u3, e3⟩ := Option.isSome_iff_exists.mp s3
      clear s0 s1 s2 s3
      obtain ⟨T, hT⟩ : ∃ T, mt (x + 2) = T := ⟨_, rfl⟩
      have HM : Hid (∀ W, Calls Tryd.prog 22 #[.int .i64 ((x : Int) + 1 + 1)] W fun e w' => e = .returned (.string T) ∧ Below W.heap.size W w') := hide fun W => by
        have := markText_any (x + 2) (by omega) (by omega) W
        rw [hT] at this
        exact this
      have HV : Hid (tokCells ⟨((k + 4 * j : Nat) : Int), ((k + 4 * j + 1 : Nat) : Int), mt (k + 4 * j + 2), k + 4 * j + 3⟩ = [.int .i64 (x : Int), .int .i64 ((x : Int) + 1), .string T, .int .i64 ((x : Int) + 1 + 1 + 1)]) := by
        show _ = _
        rw [← hx, ← hT]
        rfl
      have hx2 : x ≤ 5242880 := by omega
      have HX := hide hx
      have HGL := (unhide HS).lt
      clear hx hT
      go_wp2_with (go_at_call 22; refine (unhide HM _).mono ?_; rintro e w5 ⟨rfl, hb5⟩; have hb6 : Below wr.heap.size ((wr.setCell ⟨g, off + j * 4, none⟩ (.int .i64 (x : Int))).setCell ⟨g, off + j * 4 + 1, none⟩ (.int .i64 ((x : Int) + 1))) w5 := (by simpa using hb5); clear hb5; have HN := hide ((unhide HS).step hlt (unhide HV) hb6); have c2 := (hb6.cell (p := ⟨g, off + j * 4 + 2, none⟩) HGL).trans ((setOther (by omega)).trans ((setOther (by omega)).trans e2)); have c3 := (hb6.cell (p := ⟨g, off + j * 4 + 3, none⟩) HGL).trans ((setOther (by omega)).trans ((setOther (by omega)).trans e3)); have g2 : w5.frozen? ⟨g, off + j * 4 + 2, none⟩ = false := (hb6.frozen (p := ⟨g, off + j * 4 + 2, none⟩) HGL).trans (by simpa using f2); have g3 : w5.frozen? ⟨g, off + j * 4 + 3, none⟩ = false := (hb6.frozen (p := ⟨g, off + j * 4 + 3, none⟩) HGL).trans (by simpa using f3); clear hb6)
      go_roundw
      case rel => exact ⟨j + 1, x + 4, by omega, by go_num, by go_num, by have := unhide HX; omega, HN⟩
      case measure => simp [intOf]; omega
    · have hjn : j = n := by omega
      subst hjn
      go_wp2
      go_ret
      refine ⟨by rw [hx]; rfl, ⟨marksT_len _ _, .inr ⟨g, off, rfl, hg, (unhide HS).lt, (unhide HS).done, (unhide HS).free⟩⟩, (unhide HS).but.mono (fun x hx => by subst hx; exact at_self h0)⟩

set_option maxRecDepth 20000 in
set_option maxHeartbeats 4000000 in
theorem heldTokenS_marks (a : Option Addr) (n cap : Nat) (k : Nat) (w : World) (h : RowT w a n (marksT k n)) (hk1 : 1 ≤ k) (hk : k ≤ 1048576) (hn : n ≤ 1048576) :
    Calls Tryd.prog 12 #[.slice a n cap, .int .i64 (k : Nat)] w fun e w' => e = .returned (.int .i64 ((k + 4 * n : Nat) : Int)) ∧ Below w.heap.size w w' := by
  have H := hide h
  clear h
  go_enter Tryd.func12, Tryd.ntmps12
  go_wp2_with fail
  go_loopw [1, 5] (fun c i wr => ∃ j x : Nat, j ≤ n ∧ i = .int .i64 (j : Nat) ∧ c = .int .i64 (x : Nat) ∧ x = k + 4 * j ∧ Hid (Below w.heap.size w wr)) (fun _ i _ => n - (intOf i).toNat)
  case atStart => exact ⟨0, k, Nat.zero_le _, rfl, rfl, by omega, Below.refl _ _⟩
  case round =>
    obtain ⟨j, x, hj, rfl, rfl, hx, HB⟩ := hrel
    by_cases hlt : j < n
    · obtain ⟨b, off, t, rfl, hbl, et, y0, y1, y2, y3⟩ := ((unhide H).below (Nat.le_refl _) (unhide HB)).get hlt
      rw [marksT_get k n j hlt] at et
      obtain rfl := Option.some.inj et
      obtain ⟨T, hT⟩ : ∃ T, mt (x + 2) = T := ⟨_, rfl⟩
      rw [← hx] at y0 y1 y2 y3
      have z0 : wr.cell? ⟨b, off + j * 4, none⟩ = some (.int .i64 (x : Int)) := y0
      have z1 : wr.cell? ⟨b, off + j * 4 + 1, none⟩ = some (.int .i64 ((x : Int) + 1)) := y1
      have z2 : wr.cell? ⟨b, off + j * 4 + 2, none⟩ = some (.string T) := by rw [← hT]; exact y2
      have z3 : wr.cell? ⟨b, off + j * 4 + 3, none⟩ = some (.int .i64 ((x : Int) + 1 + 1 + 1)) := y3
      clear y0 y1 y2 y3 et
      have HM : Hid (∀ W, Calls Tryd.prog 22 #[.int .i64 ((x : Int) + 1 + 1)] W fun e w' => e = .returned (.string T) ∧ Below W.heap.size W w') := hide fun W => by
        have := markText_any (x + 2) (by omega) (by omega) W
        rw [hT] at this
        exact this
      have hx2 : x ≤ 5242880 := by omega
      have HX := hide hx
      clear hx hT
      go_wp2_with fail
      go_region_with (go_at_call 22; refine (unhide HM _).mono ?_; rintro e w1 ⟨rfl, hb1⟩; have HB1 := hide ((unhide HB).trans ((((Below.refl _ _).drew).trans hb1).mono (unhide HB).size)); have c2 : w1.cell? ⟨b, off + j * 4 + 2, none⟩ = some (.string T) := (hb1.cell (p := ⟨b, off + j * 4 + 2, none⟩) hbl).trans z2; have c3 : w1.cell? ⟨b, off + j * 4 + 3, none⟩ = some (.int .i64 ((x : Int) + 1 + 1 + 1)) := (hb1.cell (p := ⟨b, off + j * 4 + 3, none⟩) hbl).trans z3; clear hb1)
      all_goals go_wp2_with fail
      all_goals (go_roundw; (case rel => exact ⟨j + 1, x + 4, by omega, by go_num, by go_num, by have := unhide HX; omega, unhide HB1⟩); (case measure => simp [intOf]; omega))
    · have hjn : j = n := by omega
      subst hjn
      go_wp2
      go_ret
      exact ⟨by rw [hx]; rfl, unhide HB⟩

end Go.Proofs.YtkjpgbecbggcoaaDoor
