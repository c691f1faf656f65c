import Derived.Test.YtinndpnilmmmjaaGreatDoorMKi
import Derived.Test.YtinndpnilmmmjaaGreatDoorMKc
import Derived.Test.YtinndpnilmmmjaaGreatDoorMKc
namespace Go.Proofs.YtinndpnilmmmjaaGreatDoor
open Go.RowKit

set_option maxRecDepth 20000 in
set_option maxHeartbeats 8000000 in
theorem kidsI_10 (v1 v2 v3 v4 : Value) (a s2 : Option Addr) (n cap n2 c2 : Nat) (ns : List NodeD) (kids : List Int) (w : World) (h : NRow w a n ns) (hk : Row w s2 n2 kids) (hc : n2 ≤ c2) (hz : ∀ q, q < n2 → 0 ≤ kids.getD q 0 ∧ kids.getD q 0 < n) :
    Calls Tryz.prog 32 #[.agg #[.slice a n cap], .agg #[.int .i64 10, v1, v2, v3, v4, .slice s2 n2 c2]] w fun e w' => e = .returned (.bool (kidsI 10 (kinds ns kids) (selB ns (kids.getD 0 0).toNat))) ∧ Below w.heap.size w w' := by
  have hlen := hk.len
  have hsm := hk.small
  have hkl : (kinds ns kids).length = n2 := by rw [kinds_len]; exact hlen
  obtain ⟨r, hr⟩ : ∃ r, kidsI 10 (kinds ns kids) (selB ns (kids.getD 0 0).toNat) = r := ⟨_, rfl⟩
  rw [hr]
  have HA := hide (allSaid cap h)
  have HK := hide hk
  have HZ := hide hz
  have HPO := hide (after_of w (.slice a n cap) (.cells #[.int .i64 10, v1, v2, v3, v4, .slice s2 n2 c2] 47))
  obtain ⟨Q, hQ⟩ : ∃ Q, Q = (w.alloc (.cells #[.slice a n cap] 29)).alloc (.cells #[.int .i64 10, v1, v2, v3, v4, .slice s2 n2 c2] 47) := ⟨_, rfl⟩
  have HQ := hide hQ
  rw [← hQ] at HPO
  have HR : Hid ((decide ((kinds ns kids).length = 3) && (((kinds ns kids).take 1).all isE && ((((kinds ns kids).take 2).drop 1).all isF && ((kinds ns kids).drop 2).all isE))) = r) := hr
  rw [hkl] at HR
  clear hr h hk hz hQ
  by_cases hn : n2 = 3
  case neg =>
    have hg : ((n2 : Int) - 1 == 2) = false := by simp; omega
    have HE : Hid (false = r) := by show _ = _; rw [← unhide HR, decide_eq_false hn]; rfl
    clear HR HA hn
    go_enter Tryz.func32, Tryz.ntmps32
    go_wp2_with fail
    go_quiet (fail)
    go_wp2_with fail
    clear hlen hkl
    go_big_quiet (fail)
    go_wp2_with fail
    go_ret
    exact ⟨ret_bool (unhide HE), ((unhide HPO) _ (by rw [unhide HQ]; repeat (first | exact Below.refl _ _ | refine Below.drew ?_ | refine Below.drewN ?_ _))).2⟩
  rw [decide_eq_true hn, Bool.true_and] at HR
  obtain ⟨b, off, rfl, hbl, hc0⟩ := (unhide HK).get (k := 0) (by omega)
  have hg : ((n2 : Int) - 1 == 2) = true := by simp; omega
  have hx1 : ¬ c2 = 1 := by omega
  have hx2 : (1 : Int) ≤ (c2 : Int) := by omega
  have hx3 : (1 : Int) ≤ (n2 : Int) := by omega
  have hx4 : (n2 : Int) ≤ (c2 : Int) := by omega
  have hx5 : ¬ c2 = 2 := by omega
  have hx6 : (2 : Int) ≤ (c2 : Int) := by omega
  have hx7 : (2 : Int) ≤ (n2 : Int) := by omega
  rw [kinds_take, kinds_take, kinds_drop, kinds_drop] at HR
  cases q1 : (kinds ns (kids.take 1)).all isE with
  | false =>
    have HC1 := hide (fun v hv => unhide HA _ eg_expr isE isExpr_any (some ⟨b, off, none⟩) 1 c2 (kids.take 1) v hv ((unhide HK).take 1 (by omega)) (in_take (unhide HZ) (by omega)) false q1)
    have HE : Hid (false = r) := by show _ = _; rw [← unhide HR, q1]; rfl
    clear HR HA hn hc0 hlen hkl HK HZ q1
    go_enter Tryz.func32, Tryz.ntmps32
    go_wp2_with fail
    go_quiet (fail)
    go_wp2_with fail
    first | (go_region_with (first | (go_at_call 63; refine (unhide HC1 _ ((unhide HPO) _ (by rw [unhide HQ]; repeat (first | exact Below.refl _ _ | refine Below.drew ?_ | refine Below.drewN ?_ _))).2).mono ?_; rintro e w1 ⟨rfl, hb1⟩; have hb2 : Below Q.heap.size Q w1 := Below.trans (by rw [unhide HQ]; repeat (first | exact Below.refl _ _ | refine Below.drew ?_ | refine Below.drewN ?_ _)) (hb1.mono (by first | (rw [unhide HQ]; simp; done) | exact (unhide HQ1).size)); have HQ1 := hide hb2; obtain ⟨ct1, hbw⟩ := unhide HPO _ hb2; have HW1 := hide hbw; clear hb1 hb2 hbw))) | fail
    all_goals go_wp2_with fail
    all_goals go_ret
    all_goals first | exact ⟨rfl, unhide HW1⟩ | exact ⟨ret_bool (unhide HE), unhide HW1⟩
  | true =>
    rw [q1, Bool.true_and] at HR
    have HC1 := hide (fun v hv => unhide HA _ eg_expr isE isExpr_any (some ⟨b, off, none⟩) 1 c2 (kids.take 1) v hv ((unhide HK).take 1 (by omega)) (in_take (unhide HZ) (by omega)) true q1)
    clear q1
    cases q2 : (kinds ns ((kids.take 2).drop 1)).all isF with
    | false =>
      have HC2 := hide (fun v hv => unhide HA _ eg_fun isF isFunction_any (some ⟨b, off + 1, none⟩) 1 (c2 - 1) ((kids.take 2).drop 1) v hv (((unhide HK).take 2 (by omega)).drop rfl 1 (by omega)) (in_drop (in_take (unhide HZ) (by omega)) 1 1 (by omega)) false q2)
      have HE : Hid (false = r) := by show _ = _; rw [← unhide HR, q2]; rfl
      clear HR HA hn hc0 hlen hkl HK HZ q2
      go_enter Tryz.func32, Tryz.ntmps32
      go_wp2_with fail
      go_quiet (fail)
      go_wp2_with fail
      first | (go_region_with (first | (have hz1 := HQ1; clear hz1; go_at_call 63; refine (unhide HC2 _ ((unhide HPO) _ (unhide HQ1)).2).mono ?_; rintro e w2 ⟨rfl, hb1⟩; have hb2 : Below Q.heap.size Q w2 := Below.trans (unhide HQ1) (hb1.mono (by first | (rw [unhide HQ]; simp; done) | exact (unhide HQ1).size)); have HQ2 := hide hb2; obtain ⟨ct2, hbw⟩ := unhide HPO _ hb2; have HW2 := hide hbw; clear hb1 hb2 hbw) | (go_at_call 63; refine (unhide HC1 _ ((unhide HPO) _ (by rw [unhide HQ]; repeat (first | exact Below.refl _ _ | refine Below.drew ?_ | refine Below.drewN ?_ _))).2).mono ?_; rintro e w1 ⟨rfl, hb1⟩; have hb2 : Below Q.heap.size Q w1 := Below.trans (by rw [unhide HQ]; repeat (first | exact Below.refl _ _ | refine Below.drew ?_ | refine Below.drewN ?_ _)) (hb1.mono (by first | (rw [unhide HQ]; simp; done) | exact (unhide HQ1).size)); have HQ1 := hide hb2; obtain ⟨ct1, hbw⟩ := unhide HPO _ hb2; have HW1 := hide hbw; clear hb1 hb2 hbw))) | fail
      all_goals go_wp2_with fail
      all_goals go_ret
      all_goals first | exact ⟨rfl, unhide HW2⟩ | exact ⟨ret_bool (unhide HE), unhide HW2⟩
    | true =>
      rw [q2, Bool.true_and] at HR
      have HC2 := hide (fun v hv => unhide HA _ eg_fun isF isFunction_any (some ⟨b, off + 1, none⟩) 1 (c2 - 1) ((kids.take 2).drop 1) v hv (((unhide HK).take 2 (by omega)).drop rfl 1 (by omega)) (in_drop (in_take (unhide HZ) (by omega)) 1 1 (by omega)) true q2)
      have HC3 := hide (fun v hv => unhide HA _ eg_expr isE isExpr_any (some ⟨b, off + 2, none⟩) (n2 - 2) (c2 - 2) (kids.drop 2) v hv ((unhide HK).drop rfl 2 (by omega)) (in_drop (unhide HZ) 2 (n2 - 2) (by omega)) r (unhide HR))
      clear HR HA hn hc0 hlen hkl HK HZ q2
      go_enter Tryz.func32, Tryz.ntmps32
      go_wp2_with fail
      go_quiet (fail)
      go_wp2_with fail
      first | (go_region_with (first | (have hz2 := HQ2; clear hz2; go_at_call 63; refine (unhide HC3 _ ((unhide HPO) _ (unhide HQ2)).2).mono ?_; rintro e w3 ⟨rfl, hb1⟩; have hb2 : Below Q.heap.size Q w3 := Below.trans (unhide HQ2) (hb1.mono (by first | (rw [unhide HQ]; simp; done) | exact (unhide HQ2).size)); have HQ3 := hide hb2; obtain ⟨ct3, hbw⟩ := unhide HPO _ hb2; have HW3 := hide hbw; clear hb1 hb2 hbw) | (have hz1 := HQ1; clear hz1; go_at_call 63; refine (unhide HC2 _ ((unhide HPO) _ (unhide HQ1)).2).mono ?_; rintro e w2 ⟨rfl, hb1⟩; have hb2 : Below Q.heap.size Q w2 := Below.trans (unhide HQ1) (hb1.mono (by first | (rw [unhide HQ]; simp; done) | exact (unhide HQ1).size)); have HQ2 := hide hb2; obtain ⟨ct2, hbw⟩ := unhide HPO _ hb2; have HW2 := hide hbw; clear hb1 hb2 hbw) | (go_at_call 63; refine (unhide HC1 _ ((unhide HPO) _ (by rw [unhide HQ]; repeat (first | exact Below.refl _ _ | refine Below.drew ?_ | refine Below.drewN ?_ _))).2).mono ?_; rintro e w1 ⟨rfl, hb1⟩; have hb2 : Below Q.heap.size Q w1 := Below.trans (by rw [unhide HQ]; repeat (first | exact Below.refl _ _ | refine Below.drew ?_ | refine Below.drewN ?_ _)) (hb1.mono (by first | (rw [unhide HQ]; simp; done) | exact (unhide HQ1).size)); have HQ1 := hide hb2; obtain ⟨ct1, hbw⟩ := unhide HPO _ hb2; have HW1 := hide hbw; clear hb1 hb2 hbw))) | fail
      all_goals go_wp2_with fail
      all_goals go_ret
      all_goals first | exact ⟨rfl, unhide HW3⟩ | exact ⟨ret_bool (unhide HE), unhide HW3⟩

end Go.Proofs.YtinndpnilmmmjaaGreatDoor
namespace Go.Proofs.YtinndpnilmmmjaaGreatDoor
open Go.RowKit

set_option maxRecDepth 20000 in
set_option maxHeartbeats 8000000 in
theorem kidsI_21 (v1 v2 v3 v4 : Value) (a s2 : Option Addr) (n cap n2 c2 : Nat) (ns : List NodeD) (kids : List Int) (w : World) (h : NRow w a n ns) (hk : Row w s2 n2 kids) (hc : n2 ≤ c2) (hz : ∀ q, q < n2 → 0 ≤ kids.getD q 0 ∧ kids.getD q 0 < n) :
    Calls Tryz.prog 32 #[.agg #[.slice a n cap], .agg #[.int .i64 21, v1, v2, v3, v4, .slice s2 n2 c2]] w fun e w' => e = .returned (.bool (kidsI 21 (kinds ns kids) (selB ns (kids.getD 0 0).toNat))) ∧ Below w.heap.size w w' := by
  have hlen := hk.len
  have hsm := hk.small
  have hkl : (kinds ns kids).length = n2 := by rw [kinds_len]; exact hlen
  obtain ⟨r, hr⟩ : ∃ r, kidsI 21 (kinds ns kids) (selB ns (kids.getD 0 0).toNat) = r := ⟨_, rfl⟩
  rw [hr]
  have HA := hide (allSaid cap h)
  have HK := hide hk
  have HZ := hide hz
  have HPO := hide (after_of w (.slice a n cap) (.cells #[.int .i64 21, v1, v2, v3, v4, .slice s2 n2 c2] 47))
  obtain ⟨Q, hQ⟩ : ∃ Q, Q = (w.alloc (.cells #[.slice a n cap] 29)).alloc (.cells #[.int .i64 21, v1, v2, v3, v4, .slice s2 n2 c2] 47) := ⟨_, rfl⟩
  have HQ := hide hQ
  rw [← hQ] at HPO
  have HR : Hid ((decide (2 ≤ (kinds ns kids).length) && (((kinds ns kids).take ((kinds ns kids).length - 1)).all isP && ((kinds ns kids).drop ((kinds ns kids).length - 1)).all isE)) = r) := hr
  rw [hkl] at HR
  clear hr h hk hz hQ
  by_cases hn : 2 ≤ n2
  case neg =>
    have hg : decide ((1 : Int) ≤ (n2 : Int) - 1) = false := decide_eq_false (by omega)
    have HE : Hid (false = r) := by show _ = _; rw [← unhide HR, decide_eq_false hn]; rfl
    clear HR HA hn
    go_enter Tryz.func32, Tryz.ntmps32
    go_wp2_with fail
    go_quiet (fail)
    go_wp2_with fail
    clear hlen hkl
    go_big_quiet (fail)
    go_wp2_with fail
    go_ret
    exact ⟨ret_bool (unhide HE), ((unhide HPO) _ (by rw [unhide HQ]; repeat (first | exact Below.refl _ _ | refine Below.drew ?_ | refine Below.drewN ?_ _))).2⟩
  rw [decide_eq_true hn, Bool.true_and] at HR
  obtain ⟨b, off, rfl, hbl, hc0⟩ := (unhide HK).get (k := 0) (by omega)
  have hg : decide ((1 : Int) ≤ (n2 : Int) - 1) = true := decide_eq_true (by omega)
  obtain ⟨m, hm⟩ : ∃ m, n2 = m + 1 := ⟨n2 - 1, by omega⟩
  have hm1 : ((n2 : Int) - 1) = (m : Int) := by omega
  rw [show n2 - 1 = m by omega, kinds_take, kinds_drop] at HR
  have HKT := hide ((unhide HK).take m (by omega))
  have HKD := hide ((unhide HK).drop rfl m (by omega))
  have HZT := hide (in_take (k := m) (unhide HZ) (by omega))
  have HZD := hide (in_drop (unhide HZ) m 1 (by omega))
  rw [show n2 - m = 1 by omega] at HKD
  rw [hm1] at hg
  have hx1 : ¬ c2 = m := by omega
  have hx2 : (m : Int) ≤ (c2 : Int) := by omega
  have hx3 : (m : Int) ≤ (n2 : Int) := by omega
  have hx4 : (n2 : Int) ≤ (c2 : Int) := by omega
  have hx5 : n2 - m = 1 := by omega
  clear hm HK HZ
  cases q1 : (kinds ns (kids.take m)).all isP with
  | false =>
    have HC1 := hide (fun v hv => unhide HA _ eg_part isP isPart_any (some ⟨b, off, none⟩) m c2 (kids.take m) v hv (unhide HKT) (unhide HZT) false q1)
    have HE : Hid (false = r) := by show _ = _; rw [← unhide HR, q1]; rfl
    clear HR HA hn hc0 hlen hkl q1 HKT HKD HZT HZD
    go_enter Tryz.func32, Tryz.ntmps32
    go_wp2_with fail
    go_quiet (fail)
    go_wp2_with fail
    first | (go_region_with (first | (go_at_call 63; refine (unhide HC1 _ ((unhide HPO) _ (by rw [unhide HQ]; repeat (first | exact Below.refl _ _ | refine Below.drew ?_ | refine Below.drewN ?_ _))).2).mono ?_; rintro e w1 ⟨rfl, hb1⟩; have hb2 : Below Q.heap.size Q w1 := Below.trans (by rw [unhide HQ]; repeat (first | exact Below.refl _ _ | refine Below.drew ?_ | refine Below.drewN ?_ _)) (hb1.mono (by first | (rw [unhide HQ]; simp; done) | exact (unhide HQ1).size)); have HQ1 := hide hb2; obtain ⟨ct1, hbw⟩ := unhide HPO _ hb2; have HW1 := hide hbw; clear hb1 hb2 hbw))) | fail
    all_goals go_wp2_with fail
    all_goals go_ret
    all_goals first | exact ⟨rfl, unhide HW1⟩ | exact ⟨ret_bool (unhide HE), unhide HW1⟩
  | true =>
    rw [q1, Bool.true_and] at HR
    have HC1 := hide (fun v hv => unhide HA _ eg_part isP isPart_any (some ⟨b, off, none⟩) m c2 (kids.take m) v hv (unhide HKT) (unhide HZT) true q1)
    have HC2 := hide (fun v hv => unhide HA _ eg_expr isE isExpr_any (some ⟨b, off + m, none⟩) 1 (c2 - m) (kids.drop m) v hv (unhide HKD) (unhide HZD) r (unhide HR))
    clear HR HA hn hc0 hlen hkl q1 HKT HKD HZT HZD
    go_enter Tryz.func32, Tryz.ntmps32
    go_wp2_with fail
    go_quiet (fail)
    go_wp2_with fail
    first | (go_region_with (first | (have hz1 := HQ1; clear hz1; go_at_call 63; refine (unhide HC2 _ ((unhide HPO) _ (unhide HQ1)).2).mono ?_; rintro e w2 ⟨rfl, hb1⟩; have hb2 : Below Q.heap.size Q w2 := Below.trans (unhide HQ1) (hb1.mono (by first | (rw [unhide HQ]; simp; done) | exact (unhide HQ1).size)); have HQ2 := hide hb2; obtain ⟨ct2, hbw⟩ := unhide HPO _ hb2; have HW2 := hide hbw; clear hb1 hb2 hbw) | (go_at_call 63; refine (unhide HC1 _ ((unhide HPO) _ (by rw [unhide HQ]; repeat (first | exact Below.refl _ _ | refine Below.drew ?_ | refine Below.drewN ?_ _))).2).mono ?_; rintro e w1 ⟨rfl, hb1⟩; have hb2 : Below Q.heap.size Q w1 := Below.trans (by rw [unhide HQ]; repeat (first | exact Below.refl _ _ | refine Below.drew ?_ | refine Below.drewN ?_ _)) (hb1.mono (by first | (rw [unhide HQ]; simp; done) | exact (unhide HQ1).size)); have HQ1 := hide hb2; obtain ⟨ct1, hbw⟩ := unhide HPO _ hb2; have HW1 := hide hbw; clear hb1 hb2 hbw))) | fail
    all_goals go_wp2_with fail
    all_goals go_ret
    all_goals first | exact ⟨rfl, unhide HW2⟩ | exact ⟨ret_bool (unhide HE), unhide HW2⟩

end Go.Proofs.YtinndpnilmmmjaaGreatDoor
namespace Go.Proofs.YtinndpnilmmmjaaGreatDoor
open Go.RowKit

set_option maxRecDepth 20000 in
set_option maxHeartbeats 8000000 in
theorem kidsI_23 (v1 v2 v3 v4 : Value) (a s2 : Option Addr) (n cap n2 c2 : Nat) (ns : List NodeD) (kids : List Int) (w : World) (h : NRow w a n ns) (hk : Row w s2 n2 kids) (hc : n2 ≤ c2) (hz : ∀ q, q < n2 → 0 ≤ kids.getD q 0 ∧ kids.getD q 0 < n) (hsel : n2 = 2 → SelOk ns (kids.getD 0 0).toNat) :
    Calls Tryz.prog 32 #[.agg #[.slice a n cap], .agg #[.int .i64 23, v1, v2, v3, v4, .slice s2 n2 c2]] w fun e w' => e = .returned (.bool (kidsI 23 (kinds ns kids) (selB ns (kids.getD 0 0).toNat))) ∧ Below w.heap.size w w' := by
  have hlen := hk.len
  have hsm := hk.small
  have hkl : (kinds ns kids).length = n2 := by rw [kinds_len]; exact hlen
  obtain ⟨r, hr⟩ : ∃ r, kidsI 23 (kinds ns kids) (selB ns (kids.getD 0 0).toNat) = r := ⟨_, rfl⟩
  rw [hr]
  have HA := hide (allSaid cap h)
  have HK := hide hk
  have HZ := hide hz
  have HPO := hide (after_of w (.slice a n cap) (.cells #[.int .i64 23, v1, v2, v3, v4, .slice s2 n2 c2] 47))
  obtain ⟨Q, hQ⟩ : ∃ Q, Q = (w.alloc (.cells #[.slice a n cap] 29)).alloc (.cells #[.int .i64 23, v1, v2, v3, v4, .slice s2 n2 c2] 47) := ⟨_, rfl⟩
  have HQ := hide hQ
  rw [← hQ] at HPO
  have HR : Hid ((decide ((kinds ns kids).length = 2) && (selB ns (kids.getD 0 0).toNat && ((kinds ns kids).drop 1).all isE)) = r) := hr
  rw [hkl] at HR
  have H := hide h
  clear hr h hk hz hQ
  by_cases hn : n2 = 2
  case neg =>
    have hg : ((n2 : Int) - 1 == 1) = false := by simp; omega
    have HE : Hid (false = r) := by show _ = _; rw [← unhide HR, decide_eq_false hn]; rfl
    clear HR HA hn H hsel
    go_enter Tryz.func32, Tryz.ntmps32
    go_wp2_with fail
    go_quiet (fail)
    go_wp2_with fail
    clear hlen hkl
    go_big_quiet (fail)
    go_wp2_with fail
    go_ret
    exact ⟨ret_bool (unhide HE), ((unhide HPO) _ (by rw [unhide HQ]; repeat (first | exact Below.refl _ _ | refine Below.drew ?_ | refine Below.drewN ?_ _))).2⟩
  rw [decide_eq_true hn, Bool.true_and] at HR
  obtain ⟨b, off, rfl, hbl, hc0⟩ := (unhide HK).get (k := 0) (by omega)
  have hg : ((n2 : Int) - 1 == 1) = true := by simp; omega
  have hx1 : ¬ c2 = 1 := by omega
  have hx2 : (1 : Int) ≤ (c2 : Int) := by omega
  have hx3 : (1 : Int) ≤ (n2 : Int) := by omega
  have hx4 : (n2 : Int) ≤ (c2 : Int) := by omega
  rw [kinds_drop] at HR
  have hz0 := unhide HZ 0 (by omega)
  have HSO := hide (hsel hn)
  obtain ⟨z, hzz⟩ : ∃ z : Nat, kids.getD 0 0 = (z : Int) := ⟨(kids.getD 0 0).toNat, by omega⟩
  rw [hzz] at hz0 HSO HR hc0
  rw [Int.toNat_natCast] at HSO HR
  rw [Nat.add_zero] at hc0
  have hb20 : (0 : Int) < (n2 : Int) := by omega
  have hzn : z < n := by omega
  have HSEL : Hid (∀ v, Below w.heap.size w v → ∀ rr, selB ns z = rr → Calls Tryz.prog 69 #[.agg #[.slice a n cap], .int .i64 (z : Nat)] v fun e w' => e = .returned (.bool rr) ∧ Below v.heap.size v w') := fun v hv rr hrr => by rw [← hrr]; exact isSel_any a n cap ns v ((unhide H).below (Nat.le_refl _) hv).weak z hzn (unhide HSO)
  have HR2 := hide ((unhide HK).drop rfl 1 (by omega))
  have HZ2 := hide (in_drop (unhide HZ) 1 (n2 - 1) (by omega))
  clear hsel HSO H hz0 hzz HK HZ
  cases q1 : selB ns z with
  | false =>
    have HC1 := hide (fun v hv => unhide HSEL v hv false q1)
    have HE : Hid (false = r) := by show _ = _; rw [← unhide HR, q1]; rfl
    clear HR HA hn hlen hkl q1 HR2 HZ2 HSEL hzn
    go_enter Tryz.func32, Tryz.ntmps32
    go_wp2_with fail
    go_quiet (fail)
    go_wp2_with fail
    first | (go_region_with (first | (go_at_call 69; refine (unhide HC1 _ ((unhide HPO) _ (by rw [unhide HQ]; repeat (first | exact Below.refl _ _ | refine Below.drew ?_ | refine Below.drewN ?_ _))).2).mono ?_; rintro e w1 ⟨rfl, hb1⟩; have hb2 : Below Q.heap.size Q w1 := Below.trans (by rw [unhide HQ]; repeat (first | exact Below.refl _ _ | refine Below.drew ?_ | refine Below.drewN ?_ _)) (hb1.mono (by first | (rw [unhide HQ]; simp; done) | exact (unhide HQ1).size)); have HQ1 := hide hb2; obtain ⟨ct1, hbw⟩ := unhide HPO _ hb2; have HW1 := hide hbw; clear hb1 hb2 hbw))) | fail
    all_goals go_wp2_with fail
    all_goals go_ret
    all_goals first | exact ⟨rfl, unhide HW1⟩ | exact ⟨ret_bool (unhide HE), unhide HW1⟩
  | true =>
    rw [q1, Bool.true_and] at HR
    have HC1 := hide (fun v hv => unhide HSEL v hv true q1)
    have HC2 := hide (fun v hv => unhide HA _ eg_expr isE isExpr_any (some ⟨b, off + 1, none⟩) (n2 - 1) (c2 - 1) (kids.drop 1) v hv (unhide HR2) (unhide HZ2) r (unhide HR))
    clear HR HA hn hlen hkl q1 HR2 HZ2 HSEL hzn
    go_enter Tryz.func32, Tryz.ntmps32
    go_wp2_with fail
    go_quiet (fail)
    go_wp2_with fail
    first | (go_region_with (first | (have hz1 := HQ1; clear hz1; go_at_call 63; refine (unhide HC2 _ ((unhide HPO) _ (unhide HQ1)).2).mono ?_; rintro e w2 ⟨rfl, hb1⟩; have hb2 : Below Q.heap.size Q w2 := Below.trans (unhide HQ1) (hb1.mono (by first | (rw [unhide HQ]; simp; done) | exact (unhide HQ1).size)); have HQ2 := hide hb2; obtain ⟨ct2, hbw⟩ := unhide HPO _ hb2; have HW2 := hide hbw; clear hb1 hb2 hbw) | (go_at_call 69; refine (unhide HC1 _ ((unhide HPO) _ (by rw [unhide HQ]; repeat (first | exact Below.refl _ _ | refine Below.drew ?_ | refine Below.drewN ?_ _))).2).mono ?_; rintro e w1 ⟨rfl, hb1⟩; have hb2 : Below Q.heap.size Q w1 := Below.trans (by rw [unhide HQ]; repeat (first | exact Below.refl _ _ | refine Below.drew ?_ | refine Below.drewN ?_ _)) (hb1.mono (by first | (rw [unhide HQ]; simp; done) | exact (unhide HQ1).size)); have HQ1 := hide hb2; obtain ⟨ct1, hbw⟩ := unhide HPO _ hb2; have HW1 := hide hbw; clear hb1 hb2 hbw))) | fail
    all_goals go_wp2_with fail
    all_goals go_ret
    all_goals first | exact ⟨rfl, unhide HW2⟩ | exact ⟨ret_bool (unhide HE), unhide HW2⟩

end Go.Proofs.YtinndpnilmmmjaaGreatDoor
namespace Go.Proofs.YtinndpnilmmmjaaGreatDoor
open Go.RowKit

theorem kidsIm_any (k : Int) (v1 v2 v3 v4 : Value) (a s2 : Option Addr) (n cap n2 c2 : Nat) (ns : List NodeD) (kids : List Int) (w : World) (h : NRow w a n ns) (hk : Row w s2 n2 kids) (hc : n2 ≤ c2) (hz : ∀ q, q < n2 → 0 ≤ kids.getD q 0 ∧ kids.getD q 0 < n) (hsel : k = 23 → n2 = 2 → SelOk ns (kids.getD 0 0).toNat) :
    Calls Tryz.prog 32 #[.agg #[.slice a n cap], .agg #[.int .i64 k, v1, v2, v3, v4, .slice s2 n2 c2]] w fun e w' => e = .returned (.bool (kidsI k (kinds ns kids) (selB ns (kids.getD 0 0).toNat))) ∧ Below w.heap.size w w' := by
  by_cases h7 : k = 7
  · subst h7; exact kidsI_7 v1 v2 v3 v4 a s2 n cap n2 c2 ns kids w h hk hc hz
  by_cases h9 : k = 9
  · subst h9; exact kidsI_9 v1 v2 v3 v4 a s2 n cap n2 c2 ns kids w h hk hc hz
  by_cases h10 : k = 10
  · subst h10; exact kidsI_10 v1 v2 v3 v4 a s2 n cap n2 c2 ns kids w h hk hc hz
  by_cases h16 : k = 16
  · subst h16; exact kidsI_16 v1 v2 v3 v4 a s2 n cap n2 c2 ns kids w h hk hz
  by_cases h19 : k = 19
  · subst h19; exact kidsI_19 v1 v2 v3 v4 a s2 n cap n2 c2 ns kids w h hk hz
  by_cases h20 : k = 20
  · subst h20; exact kidsI_20 v1 v2 v3 v4 a s2 n cap n2 c2 ns kids w h hk hz
  by_cases h21 : k = 21
  · subst h21; exact kidsI_21 v1 v2 v3 v4 a s2 n cap n2 c2 ns kids w h hk hc hz
  by_cases h22 : k = 22
  · subst h22; exact kidsI_22 v1 v2 v3 v4 a s2 n cap n2 c2 ns kids w h hk hz
  by_cases h23 : k = 23
  · subst h23; exact kidsI_23 v1 v2 v3 v4 a s2 n cap n2 c2 ns kids w h hk hc hz (hsel rfl)
  by_cases h24 : k = 24
  · subst h24; exact kidsI_24 v1 v2 v3 v4 a s2 n cap n2 c2 ns kids w h hk hz
  by_cases h25 : k = 25
  · subst h25; exact kidsI_25 v1 v2 v3 v4 a s2 n cap n2 c2 ns kids w h hk hz
  exact kidsI_other k v1 v2 v3 v4 a s2 n cap n2 c2 ns kids w h hk hz h7 h9 h10 h16 h19 h20 h21 h22 h23 h24 h25

end Go.Proofs.YtinndpnilmmmjaaGreatDoor
