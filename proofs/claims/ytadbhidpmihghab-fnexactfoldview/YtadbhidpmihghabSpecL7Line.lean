import Derived.Test.YtadbhidpmihghabLineMath
import Derived.Test.YtadbhidpmihghabSpecView
import Derived.BigQuiet
namespace Go.Proofs.Ytadbhidpmihghab
open Go.RowKit

theorem ret_line {x y : Int} {p q : Bool} {r : Int × Bool} (h : r = (y, q)) (hx : x = y) (hp : p = q) : Ending.returned (.tuple #[.int .i64 x, .bool p]) = .returned (.tuple #[.int .i64 r.1, .bool r.2]) := by rw [h, hx, hp]

set_option maxRecDepth 20000 in
set_option maxHeartbeats 2000000 in
theorem l7Line_any (a : Option Addr) (n cap : Nat) (zs : List Int) (w : World) (h : Row w a n zs) (hb : ∀ k, k < n → -1000000000000 ≤ zs.getD k 0 ∧ zs.getD k 0 ≤ 1000000000000) :
    Calls Try.prog 36 #[.slice a n cap] w fun e w' => e = .returned (.tuple #[.int .i64 (lineL zs).1, .bool (lineL zs).2]) ∧ Below w.heap.size w w' := by
  have hlen := hide h.len
  have hsm := h.small
  have H := hide h
  have HB := hide hb
  clear h hb
  by_cases hn : n < 2
  · have HE := hide (lineL_short (ps := zs) (by rw [hlen.out]; exact hn))
    have hni : (n : Int) < 2 := by omega
    go_enter Try.func36, Try.ntmps36
    go_wp2
    go_ret2
    exact ⟨ret_line HE.out rfl rfl, Below.refl _ _⟩
  · have hni : ¬ (n : Int) < 2 := by omega
    obtain ⟨b, off, rfl, hblt, hc0⟩ := H.out.get (k := 0) (by omega)
    obtain ⟨b', off', e, _, hc1⟩ := H.out.get (k := 1) (by omega)
    cases e
    have hb0 := HB.out 0 (by omega)
    have hb1 := HB.out 1 (by omega)
    obtain ⟨y, hy⟩ : ∃ y, y = zs.getD 0 0 := ⟨_, rfl⟩
    obtain ⟨z, hz⟩ : ∃ z, z = zs.getD 1 0 := ⟨_, rfl⟩
    obtain ⟨d, hd⟩ : ∃ d, d = z - y := ⟨_, rfl⟩
    rw [← hy] at hc0 hb0
    rw [← hz] at hc1 hb1
    have hw : IntKind.i64.wrap (z - y) = d := by rw [IntKind.wrap_i64, hd]; omega
    have HD : Hid (zs.getD 1 0 - zs.getD 0 0 = d) := by show _ = _; rw [← hy, ← hz, hd]
    have hzy : z - y = d := hd.symm
    rw [Nat.add_zero] at hc0
    have h1n : (1 : Int) < (n : Int) := by omega
    have h0n : (0 : Int) < (n : Int) := by omega
    clear hy hz hd
    go_enter Try.func36, Try.ntmps36
    go_wp2_with fail
    go_quiet (fail)
    go_wp2_with fail
    clear hc0 hc1
    go_loopw [5] (fun i wr => ∃ k : Nat, 1 ≤ k ∧ k ≤ n ∧ i = .int .i64 (k : Nat) ∧ Hid (∀ j, j ≠ 0 → j < k → zs.getD j 0 - zs.getD (j - 1) 0 = d) ∧ Hid (Below w.heap.size w wr)) (fun i _ => n - (intOf i).toNat)
    case atStart => exact ⟨1, Nat.le_refl _, by omega, rfl, fun j h0 hj => absurd hj (by omega), Below.drewN (Below.refl _ _) _⟩
    case round =>
      obtain ⟨k, hk1, hk, rfl, hall, hlow⟩ := hrel
      by_cases hlt : k < n
      · obtain ⟨b1, o1, e, hl1, ck⟩ := (H.out.below (Nat.le_refl _) hlow.out).get hlt
        cases e
        obtain ⟨j, hj⟩ : ∃ j : Nat, j = k - 1 := ⟨_, rfl⟩
        obtain ⟨b2, o2, e, _, cj⟩ := (H.out.below (Nat.le_refl _) hlow.out).get (k := j) (by omega)
        cases e
        have hbk := HB.out k hlt
        have hbj := HB.out j (by omega)
        obtain ⟨u, hu⟩ : ∃ u, u = zs.getD k 0 := ⟨_, rfl⟩
        obtain ⟨v, hv⟩ : ∃ v, v = zs.getD j 0 := ⟨_, rfl⟩
        rw [← hu] at ck hbk
        rw [← hv] at cj hbj
        have hkj : (k : Int) - 1 = (j : Nat) := by omega
        have hjn : (j : Int) < (n : Int) := by omega
        have hkn : (k : Int) < (n : Int) := by omega
        obtain ⟨q, hq⟩ : ∃ q, q = u - v := ⟨_, rfl⟩
        have hwq : IntKind.i64.wrap (u - v) = q := by rw [IntKind.wrap_i64, hq]; omega
        have huv : u - v = q := hq.symm
        have hwk : IntKind.i64.wrap ((k : Int) - 1) = (j : Nat) := by rw [IntKind.wrap_i64]; omega
        have HUV : Hid (zs.getD k 0 - zs.getD (k - 1) 0 = q) := by show _ = _; rw [← hj, ← hu, ← hv, hq]
        by_cases hqd : q = d
        · have hne : (q != d) = false := by simp [hqd]
          have HQD := hide hqd
          clear hu hv hj hq hqd
          go_wp2_with fail
          go_quiet (fail)
          go_wp2_with fail
          go_roundw
          case rel =>
            refine ⟨k + 1, by omega, by omega, by go_num, fun i h0 hi => ?_, Below.drewN hlow.out _⟩
            by_cases e : i = k
            · rw [e, HUV.out, HQD.out]
            · exact hall.out i h0 (by omega)
          case measure => simp [intOf]; omega
        · have hne : (q != d) = true := by simp [hqd]
          have HE : Hid (lineL zs = (0, false)) := lineL_no (by rw [hlen.out]; exact hn) (i := k) (by rw [hlen.out]; exact hlt) (by omega) (by rw [HUV.out, HD.out]; exact hqd)
          clear hu hv hj hq hqd
          go_wp2_with fail
          go_quiet (fail)
          go_wp2_with fail
          go_ret2
          exact ⟨ret_line HE.out rfl rfl, Below.drewN hlow.out _⟩
      · have hke : k = n := by omega
        subst hke
        have HE : Hid (lineL zs = (d, true)) := by
          have := lineL_yes (ps := zs) (by rw [hlen.out]; exact hn) (fun i h0 hi => by rw [HD.out]; exact hall.out i h0 (by rw [← hlen.out]; exact hi))
          rw [HD.out] at this
          exact this
        go_wp2_with fail
        go_ret2
        exact ⟨ret_line HE.out rfl rfl, hlow.out⟩

theorem placeOf_bd {off : Int} {sh st : List Int} (h : formed off sh st = true) (N : Nat) (hN : countOf sh = (N : Int)) (k : Nat) (hk : k < N) : -1000000000000 ≤ placeOf off sh st k ∧ placeOf off sh st k ≤ 1000000000000 := by
  obtain ⟨hsb, _, ho, hst⟩ := formed_parts h
  have hF : Full sh := full_of (shapeB_in hsb).1 (by rw [prodAll_count sh hsb, hN]; omega)
  have hb := farN_bd (digits_in hF k) (fun k => ((shapeB_in hsb).1.cell k).2) hst sh.length (Nat.le_refl _)
  have h5 := (shapeB_in hsb).2
  unfold placeOf
  omega

end Go.Proofs.Ytadbhidpmihghab
