import Derived.Test.YtheocceclpplhaaGreatDoorArr
import Derived.Test.YtheocceclpplhaaGreatDoorMMath
namespace Go.Proofs.YtheocceclpplhaaGreatDoor
open Go.RowKit

set_option maxHeartbeats 400000 in
theorem l1RuneOk_any (v : Int) (w : World) : Calls Tryz.prog 40 #[.int .i64 v] w fun e w' => e = .returned (.bool (runeOk v)) ∧ w' = w := by
  by_cases h1 : 0 ≤ v
  · by_cases h2 : v ≤ 1114111
    · by_cases h3 : v < 55296
      · have HE : Hid (runeOk v = true) := decide_eq_true ⟨h1, h2, .inl h3⟩
        go_enter Tryz.func40, Tryz.ntmps40
        go_wp2
        go_ret
        exact ⟨ret_bool HE.out.symm, rfl⟩
      · by_cases h4 : 57343 < v
        · have HE : Hid (runeOk v = true) := decide_eq_true ⟨h1, h2, .inr h4⟩
          go_enter Tryz.func40, Tryz.ntmps40
          go_wp2
          go_ret
          exact ⟨ret_bool HE.out.symm, rfl⟩
        · have HE : Hid (runeOk v = false) := decide_eq_false (fun h => by omega)
          go_enter Tryz.func40, Tryz.ntmps40
          go_wp2
          go_ret
          exact ⟨ret_bool HE.out.symm, rfl⟩
    · have HE : Hid (runeOk v = false) := decide_eq_false (fun h => by omega)
      go_enter Tryz.func40, Tryz.ntmps40
      go_wp2
      go_ret
      exact ⟨ret_bool HE.out.symm, rfl⟩
  · have HE : Hid (runeOk v = false) := decide_eq_false (fun h => by omega)
    go_enter Tryz.func40, Tryz.ntmps40
    go_wp2
    go_ret
    exact ⟨ret_bool HE.out.symm, rfl⟩

theorem Row.get {w : World} {a : Option Addr} {n : Nat} {zs : List Int} (h : Row w a n zs) {k : Nat} (hk : k < n) : ∃ b off, a = some ⟨b, off, none⟩ ∧ b < w.heap.size ∧ w.cell? ⟨b, off + k, none⟩ = some (.int .i64 (zs.getD k 0)) := by
  rcases h.at_ with h0 | ⟨b, off, rfl, hlt, hc⟩
  · omega
  · exact ⟨b, off, rfl, hlt, hc k hk⟩

set_option maxHeartbeats 1000000 in
theorem l3Count_any (a : Option Addr) (n cap : Nat) (sh : List Int) (w : World) (h : Row w a n sh) : Calls Tryz.prog 39 #[.slice a n cap] w fun e w' => e = .returned (.int .i64 (countOf sh)) ∧ w' = w := by
  have hlen := hide h.len
  have hsm := h.small
  have H := hide h
  clear h
  go_enter Tryz.func39, Tryz.ntmps39
  go_wp2
  go_loop [4] (fun i => ∃ k : Nat, k ≤ n ∧ i = .int .i64 k ∧ Hid ((sh.take k).all inCells = true)) (fun i => n - (intOf i).toNat)
  case atStart => exact ⟨0, Nat.zero_le _, rfl, rfl⟩
  case round =>
    obtain ⟨k, hk, rfl, hall⟩ := hrel
    by_cases hlt : k < n
    · obtain ⟨b, off, rfl, hblt, hc⟩ := (unhide H).get hlt
      have hks : Hid (k < sh.length) := by show k < sh.length; rw [unhide hlen]; exact hlt
      obtain ⟨x, hx⟩ : ∃ x, x = sh.getD k 0 := ⟨_, rfl⟩
      rw [← hx] at hc
      have HX := hide hx
      clear hx
      by_cases hneg : x < 0
      · have HE : Hid (countOf sh = -1) := count_bad sh (all_not sh inCells k (unhide hks) (by rw [← unhide HX]; exact decide_eq_false (by omega)))
        go_wp2
        go_ret
        exact ⟨ret_int HE.out.symm, rfl⟩
      · by_cases hbig : 10000 < x
        · have HE : Hid (countOf sh = -1) := count_bad sh (all_not sh inCells k (unhide hks) (by rw [← unhide HX]; exact decide_eq_false (by omega)))
          go_wp2
          go_ret
          exact ⟨ret_int HE.out.symm, rfl⟩
        · have HA : Hid ((sh.take (k + 1)).all inCells = true) := all_step sh inCells k (unhide hks) (unhide hall) (by rw [← unhide HX]; exact decide_eq_true (by omega))
          go_wp2
          go_round
          case rel => exact ⟨k + 1, by omega, by go_num, HA⟩
          case measure => simp [intOf]; omega
    · have HA : Hid (sh.all inCells = true) := by
        have := unhide hall
        rwa [List.take_of_length_le (by rw [unhide hlen]; omega)] at this
      clear hall
      go_wp2
      go_loop [3, 5, 6] (fun p z i => ∃ (k : Nat) (m : Int), k ≤ n ∧ i = .int .i64 k ∧ p = .int .i64 m ∧ Hid (prodFrom (sh.take k) 1 = some m) ∧ z = .bool (decide (0 ∈ sh.take k))) (fun _ _ i => n - (intOf i).toNat)
      case atStart => exact ⟨0, 1, Nat.zero_le _, rfl, rfl, rfl, rfl⟩
      case round =>
        obtain ⟨k, m, hk, rfl, rfl, hp, rfl⟩ := hrel
        have hmb := prodFrom_bd (sh.take k) 1 m (by rw [List.all_eq_true]; exact fun x hx => List.all_eq_true.1 (unhide HA) x (List.mem_of_mem_take hx)) (by omega) (by omega) (unhide hp)
        obtain ⟨hm1, hm2⟩ := hmb
        by_cases hlt : k < n
        · obtain ⟨b, off, rfl, hblt, hc⟩ := (unhide H).get hlt
          have hks : Hid (k < sh.length) := by show k < sh.length; rw [unhide hlen]; exact hlt
          have hxb : 0 ≤ sh.getD k 0 ∧ sh.getD k 0 ≤ 10000 := of_decide_eq_true (List.all_eq_true.1 (unhide HA) (sh.getD k 0) (by simp [unhide hks]))
          have HZ := hide (zero_step sh k (unhide hks))
          obtain ⟨x, hx⟩ : ∃ x, x = sh.getD k 0 := ⟨_, rfl⟩
          rw [← hx] at hc hxb
          obtain ⟨hx0, hx1⟩ := hxb
          have HX := hide hx
          clear hx
          generalize decide (0 ∈ sh.take k) = z0 at *
          by_cases h0 : x = 0
          · have hb : (x == 0) = true := by simp [h0]
            have HP := hide (prod_step0 sh k (unhide hks) m (unhide hp) (by rw [← unhide HX]; exact h0))
            have HZ2 : Hid (true = decide (0 ∈ sh.take (k + 1))) := by show _ = _; rw [unhide HZ, ← unhide HX, decide_eq_true h0, Bool.or_true]
            clear h0 HZ
            go_wp2
            go_round
            case rel => exact ⟨k + 1, m, by omega, by go_num, rfl, HP, by rw [← unhide HZ2]⟩
            case measure => simp [intOf]; omega
          · have hb : (x == 0) = false := by simp [h0]
            have HZ2 : Hid (z0 = decide (0 ∈ sh.take (k + 1))) := by show _ = _; rw [unhide HZ, ← unhide HX, decide_eq_false h0, Bool.or_false]
            have hmx : m * x ≤ 10000 * 10000 := Int.mul_le_mul hm2 hx1 hx0 (by omega)
            have hmx0 : 0 ≤ m * x := Int.mul_nonneg (by omega) hx0
            by_cases hbig : 10000 < m * x
            · have HE : Hid (countOf sh = -1) := count_big sh (prod_none sh k (unhide hks) m (unhide hp) (by rw [← unhide HX]; exact h0) (by rw [← unhide HX]; exact hbig))
              clear h0 HZ
              go_wp2
              go_ret
              exact ⟨ret_int HE.out.symm, rfl⟩
            · have HP := hide (prod_step sh k (unhide hks) m (unhide hp) (by rw [← unhide HX]; exact h0) (by rw [← unhide HX]; omega))
              rw [← unhide HX] at HP
              clear h0 HZ
              go_wp2
              go_round
              case rel => exact ⟨k + 1, m * x, by omega, by go_num, rfl, HP, by rw [← unhide HZ2]⟩
              case measure => simp [intOf]; omega
        · have HP : Hid (prodFrom sh 1 = some m) := by
            have := unhide hp
            rwa [List.take_of_length_le (by rw [unhide hlen]; omega)] at this
          rw [List.take_of_length_le (by rw [unhide hlen]; omega)]
          by_cases hz : 0 ∈ sh
          · have hd : decide (0 ∈ sh) = true := decide_eq_true hz
            have HE := hide (count_zero sh m (unhide HA) (unhide HP) hd)
            clear hz
            rw [hd]
            go_wp2
            go_ret
            exact ⟨ret_int HE.out.symm, rfl⟩
          · have hd : decide (0 ∈ sh) = false := decide_eq_false hz
            have HE := hide (count_n sh m (unhide HA) (unhide HP) hd)
            clear hz
            rw [hd]
            go_wp2
            go_ret
            exact ⟨ret_int HE.out.symm, rfl⟩

theorem l3Count_eq (a : Option Addr) (n cap : Nat) (sh : List Int) (w : World) (h : Row w a n sh) (cn : Int) (hc : Hid (countOf sh = cn)) : Calls Tryz.prog 39 #[.slice a n cap] w fun e w' => e = .returned (.int .i64 cn) ∧ w' = w := by
  rw [← hc.out]; exact l3Count_any a n cap sh w h

theorem l1RuneOk_eq (v : Int) (w : World) (b : Bool) (h : Hid (runeOk v = b)) : Calls Tryz.prog 40 #[.int .i64 v] w fun e w' => e = .returned (.bool b) ∧ w' = w := by
  rw [← h.out]; exact l1RuneOk_any v w

theorem arr_long {c : Bool} {sh dt : List Int} {n1 : Nat} (hl : sh.length = n1) (h : 5 < n1) : arrOk c sh dt = false := by
  unfold arrOk; rw [decide_eq_false (by omega)]; rfl
theorem arr_count {c : Bool} {sh dt : List Int} {n2 : Nat} (hl : dt.length = n2) (h : countOf sh ≠ n2) : arrOk c sh dt = false := by
  unfold arrOk; rw [decide_eq_false (p := countOf sh = _) (by rw [hl]; exact h)]; simp
theorem arr_data {c : Bool} {sh dt : List Int} (h : dt.all (dataOk c) = false) : arrOk c sh dt = false := by
  unfold arrOk; rw [h]; simp
theorem arr_good {c : Bool} {sh dt : List Int} {n1 n2 : Nat} (hl1 : sh.length = n1) (hl2 : dt.length = n2) (h5 : n1 ≤ 5) (hc : countOf sh = n2) (h : dt.all (dataOk c) = true) : arrOk c sh dt = true := by
  unfold arrOk; rw [h, decide_eq_true (by omega), decide_eq_true (by rw [hl2]; exact hc)]; rfl

set_option maxHeartbeats 1000000 in
theorem ArrayOk_any (c : Bool) (a1 a2 : Option Addr) (n1 n2 c1 c2 : Nat) (sh dt : List Int) (w : World) (h1 : Row w a1 n1 sh) (h2 : Row w a2 n2 dt) :
    Calls Tryz.prog 12 #[.agg #[.bool c, .slice a1 n1 c1, .slice a2 n2 c2]] w fun e w' => e = .returned (.bool (arrOk c sh dt)) ∧ Below w.heap.size w w' := by
  have hl1 := hide h1.len
  have hl2 := hide h2.len
  have hs1 := h1.small
  have hs2 := h2.small
  have H1 := hide h1
  have H2 := hide h2
  clear h1 h2
  have hW : ∀ o, Below w.heap.size w (w.alloc o) := fun o => (Below.refl _ _).alloc (Nat.le_refl _) _
  have hcb := count_bd sh
  obtain ⟨hcb1, hcb2⟩ := hcb
  by_cases h5 : 5 < n1
  · have hd : decide ((5 : Int) < (n1 : Int)) = true := by simp; omega
    have HE := hide (arr_long (c := c) (dt := dt) (unhide hl1) h5)
    go_enter Tryz.func12, Tryz.ntmps12
    go_wp2
    go_quiet (fail)
    go_wp2
    go_ret
    exact ⟨ret_bool HE.out.symm, Below.drewN (hW _) _⟩
  · have hd : decide ((5 : Int) < (n1 : Int)) = false := by simp; omega
    obtain ⟨cn, hcn⟩ : ∃ cn, countOf sh = cn := ⟨_, rfl⟩
    rw [hcn] at hcb1 hcb2
    have HC := hide hcn
    clear hcn
    by_cases hcn : cn = n2
    · have hb : (cn != (n2 : Int)) = false := by simp [hcn]
      have HCN := hide hcn
      clear hcn
      go_enter Tryz.func12, Tryz.ntmps12
      go_wp2
      go_quiet ((go_at_call 39; exact Calls.quiet_of_same (l3Count_eq _ _ _ sh _ (((unhide H1).alloc _).drewN _) cn HC)))
      go_wp2
      go_loopw [3, 4] (fun i v wr => ∃ k : Nat, k ≤ n2 ∧ i = .int .i64 k ∧ Hid ((dt.take k).all (dataOk c) = true) ∧ wr = (w.alloc (.cells #[.bool c, .slice a1 n1 c1, .slice a2 n2 c2] 26)).drewN nq) (fun i _ _ => n2 - (intOf i).toNat)
      case atStart => exact ⟨0, Nat.zero_le _, rfl, rfl, rfl⟩
      case round =>
        obtain ⟨k, hk, rfl, hall, rfl⟩ := hrel
        by_cases hlt : k < n2
        · obtain ⟨b, off, rfl, hblt, hc⟩ := (unhide H2).get hlt
          have hks : Hid (k < dt.length) := by show k < dt.length; rw [unhide hl2]; exact hlt
          obtain ⟨x, hx⟩ : ∃ x, x = dt.getD k 0 := ⟨_, rfl⟩
          rw [← hx] at hc
          have HX := hide hx
          clear hx
          have hN : ∀ {r : Bool}, dataOk c x = r → r = false → Hid (arrOk c sh dt = false) := fun h1 h2 => arr_data (all_not dt (dataOk c) k (unhide hks) (by rw [← unhide HX, h1, h2]))
          have hY : ∀ {r : Bool}, dataOk c x = r → r = true → Hid ((dt.take (k + 1)).all (dataOk c) = true) := fun h1 h2 => all_step dt (dataOk c) k (unhide hks) (unhide hall) (by rw [← unhide HX, h1, h2])
          cases c with
          | true =>
            cases hr : runeOk x with
            | true =>
              have hxb := of_decide_eq_true hr
              have HR := hide hr
              have HA := hY (show dataOk true x = true by unfold dataOk; rw [hr, decide_eq_true (by omega)]; rfl) rfl
              have hx1 : x ≤ 1000000000000000 := by omega
              have hx2 : -1000000000000000 ≤ x := by omega
              clear hr hxb hN hY
              go_wp2_with (go_at_call 40; refine (l1RuneOk_eq _ _ true HR).mono ?_; rintro e w' ⟨rfl, rfl⟩)
              go_roundw
              case rel => exact ⟨k + 1, by omega, by go_num, HA, by first | exact trivial | rfl⟩
              case measure => simp [intOf]; omega
            | false =>
              have HR := hide hr
              have HE := hN (show dataOk true x = false by unfold dataOk; rw [hr]; rfl) rfl
              clear hr hN hY
              go_wp2_with (go_at_call 40; refine (l1RuneOk_eq _ _ false HR).mono ?_; rintro e w' ⟨rfl, rfl⟩)
              go_ret
              exact ⟨ret_bool HE.out.symm, Below.drewN (hW _) _⟩
          | false =>
            by_cases hx1 : 1000000000000000 < x
            · have HE := hN (show dataOk false x = false by unfold dataOk; rw [decide_eq_false (by omega)]; rfl) rfl
              clear hN hY
              go_wp2
              go_ret
              exact ⟨ret_bool HE.out.symm, Below.drewN (hW _) _⟩
            · by_cases hx2 : x < -1000000000000000
              · have HE := hN (show dataOk false x = false by unfold dataOk; rw [decide_eq_false (by omega)]; rfl) rfl
                clear hN hY
                go_wp2
                go_ret
                exact ⟨ret_bool HE.out.symm, Below.drewN (hW _) _⟩
              · have HA := hY (show dataOk false x = true by unfold dataOk; rw [decide_eq_true (by omega)]; rfl) rfl
                clear hN hY
                go_wp2
                go_roundw
                case rel => exact ⟨k + 1, by omega, by go_num, HA, by first | exact trivial | rfl⟩
                case measure => simp [intOf]; omega
        · have HA : Hid (dt.all (dataOk c) = true) := by
            have := unhide hall
            rwa [List.take_of_length_le (by rw [unhide hl2]; omega)] at this
          have HE := hide (arr_good (unhide hl1) (unhide hl2) (by omega) ((unhide HC).trans (unhide HCN)) (unhide HA))
          go_wp2
          go_ret
          exact ⟨ret_bool HE.out.symm, Below.drewN (hW _) _⟩
    · have hb : (cn != (n2 : Int)) = true := by simp [hcn]
      have HE := hide (arr_count (c := c) (sh := sh) (unhide hl2) (by rw [unhide HC]; exact hcn))
      clear hcn
      go_enter Tryz.func12, Tryz.ntmps12
      go_wp2
      go_quiet ((go_at_call 39; exact Calls.quiet_of_same (l3Count_eq _ _ _ sh _ (((unhide H1).alloc _).drewN _) cn HC)))
      go_wp2
      go_ret
      exact ⟨ret_bool HE.out.symm, Below.drewN (hW _) _⟩

theorem ArrayOk_eq (c : Bool) (a1 a2 : Option Addr) (n1 n2 c1 c2 : Nat) (sh dt : List Int) (w : World) (h1 : Row w a1 n1 sh) (h2 : Row w a2 n2 dt) (r : Bool) (hr : Hid (arrOk c sh dt = r)) :
    Calls Tryz.prog 12 #[.agg #[.bool c, .slice a1 n1 c1, .slice a2 n2 c2]] w fun e w' => e = .returned (.bool r) ∧ Below w.heap.size w w' := by
  rw [← hr.out]; exact ArrayOk_any c a1 a2 n1 n2 c1 c2 sh dt w h1 h2

end Go.Proofs.YtheocceclpplhaaGreatDoor
