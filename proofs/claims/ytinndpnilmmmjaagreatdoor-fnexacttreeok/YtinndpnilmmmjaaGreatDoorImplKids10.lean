import Derived.Test.YtinndpnilmmmjaaGreatDoorImplKidsA
namespace Go.Proofs.YtinndpnilmmmjaaGreatDoor
open Go.RowKit

set_option maxRecDepth 20000 in
set_option maxHeartbeats 8000000 in
theorem kidsI_10 (v1 v2 v3 v4 : Value) (a s2 : Option Addr) (n cap n2 c2 : Nat) (ns : List NodeD) (kids : List Int) (w : World) (h : NRow w a n ns) (hk : Row w s2 n2 kids) (hc : n2 ≤ c2) (hz : ∀ q, q < n2 → 0 ≤ kids.getD q 0 ∧ kids.getD q 0 < n) :
    Calls Tryz.prog 32 #[.agg #[.slice a n cap], .agg #[.int .i64 10, v1, v2, v3, v4, .slice s2 n2 c2]] w fun e w' => e = .returned (.bool (kidsI 10 (kinds ns kids) (selB ns (kids.getD 0 0).toNat))) ∧ Below w.heap.size w w' := by
  have hlen := hk.len
  have hsm := hk.small
  have hkl : (kinds ns kids).length = n2 := by rw [kinds_len]; exact hlen
  obtain ⟨r, hr⟩ : ∃ r, kidsI 10 (kinds ns kids) (selB ns (kids.getD 0 0).toNat) = r := ⟨_, rfl⟩
  rw [hr]
  have HA := hide (allSaid cap h)
  have HK := hide hk
  have HZ := hide hz
  have HPO := hide (after_of w (.slice a n cap) (.cells #[.int .i64 10, v1, v2, v3, v4, .slice s2 n2 c2] 47))
  obtain ⟨Q, hQ⟩ : ∃ Q, Q = (w.alloc (.cells #[.slice a n cap] 29)).alloc (.cells #[.int .i64 10, v1, v2, v3, v4, .slice s2 n2 c2] 47) := ⟨_, rfl⟩
  have HQ := hide hQ
  rw [← hQ] at HPO
  have HR : Hid ((decide ((kinds ns kids).length = 3) && (((kinds ns kids).take 1).all isE && ((((kinds ns kids).take 2).drop 1).all isF && ((kinds ns kids).drop 2).all isE))) = r) := hr
  rw [hkl] at HR
  clear hr h hk hz hQ
  by_cases hn : n2 = 3
  case neg =>
    have hg : ((n2 : Int) - 1 == 2) = false := by simp; omega
    have HE : Hid (false = r) := by show _ = _; rw [← unhide HR, decide_eq_false hn]; rfl
    clear HR HA hn
    go_enter Tryz.func32, Tryz.ntmps32
    go_wp2_with fail
    go_quiet (fail)
    go_wp2_with fail
    clear hlen hkl
    go_big_quiet (fail)
    go_wp2_with fail
    go_ret
    exact ⟨ret_bool (unhide HE), ((unhide HPO) _ (by rw [unhide HQ]; repeat (first | exact Below.refl _ _ | refine Below.drew ?_ | refine Below.drewN ?_ _))).2⟩
  rw [decide_eq_true hn, Bool.true_and] at HR
  obtain ⟨b, off, rfl, hbl, hc0⟩ := (unhide HK).get (k := 0) (by omega)
  have hg : ((n2 : Int) - 1 == 2) = true := by simp; omega
  have hx1 : ¬ c2 = 1 := by omega
  have hx2 : (1 : Int) ≤ (c2 : Int) := by omega
  have hx3 : (1 : Int) ≤ (n2 : Int) := by omega
  have hx4 : (n2 : Int) ≤ (c2 : Int) := by omega
  have hx5 : ¬ c2 = 2 := by omega
  have hx6 : (2 : Int) ≤ (c2 : Int) := by omega
  have hx7 : (2 : Int) ≤ (n2 : Int) := by omega
  rw [kinds_take, kinds_take, kinds_drop, kinds_drop] at HR
  cases q1 : (kinds ns (kids.take 1)).all isE with
  | false =>
    have HC1 := hide (fun v hv => unhide HA _ eg_expr isE isExpr_any (some ⟨b, off, none⟩) 1 c2 (kids.take 1) v hv ((unhide HK).take 1 (by omega)) (in_take (unhide HZ) (by omega)) false q1)
    have HE : Hid (false = r) := by show _ = _; rw [← unhide HR, q1]; rfl
    clear HR HA hn hc0 hlen hkl HK HZ q1
    go_enter Tryz.func32, Tryz.ntmps32
    go_wp2_with fail
    go_quiet (fail)
    go_wp2_with fail
    first | (go_region_with (first | (go_at_call 63; refine (unhide HC1 _ ((unhide HPO) _ (by rw [unhide HQ]; repeat (first | exact Below.refl _ _ | refine Below.drew ?_ | refine Below.drewN ?_ _))).2).mono ?_; rintro e w1 ⟨rfl, hb1⟩; have hb2 : Below Q.heap.size Q w1 := Below.trans (by rw [unhide HQ]; repeat (first | exact Below.refl _ _ | refine Below.drew ?_ | refine Below.drewN ?_ _)) (hb1.mono (by first | (rw [unhide HQ]; simp; done) | exact (unhide HQ1).size)); have HQ1 := hide hb2; obtain ⟨ct1, hbw⟩ := unhide HPO _ hb2; have HW1 := hide hbw; clear hb1 hb2 hbw))) | fail
    all_goals go_wp2_with fail
    all_goals go_ret
    all_goals first | exact ⟨rfl, unhide HW1⟩ | exact ⟨ret_bool (unhide HE), unhide HW1⟩
  | true =>
    rw [q1, Bool.true_and] at HR
    have HC1 := hide (fun v hv => unhide HA _ eg_expr isE isExpr_any (some ⟨b, off, none⟩) 1 c2 (kids.take 1) v hv ((unhide HK).take 1 (by omega)) (in_take (unhide HZ) (by omega)) true q1)
    clear q1
    cases q2 : (kinds ns ((kids.take 2).drop 1)).all isF with
    | false =>
      have HC2 := hide (fun v hv => unhide HA _ eg_fun isF isFunction_any (some ⟨b, off + 1, none⟩) 1 (c2 - 1) ((kids.take 2).drop 1) v hv (((unhide HK).take 2 (by omega)).drop rfl 1 (by omega)) (in_drop (in_take (unhide HZ) (by omega)) 1 1 (by omega)) false q2)
      have HE : Hid (false = r) := by show _ = _; rw [← unhide HR, q2]; rfl
      clear HR HA hn hc0 hlen hkl HK HZ q2
      go_enter Tryz.func32, Tryz.ntmps32
      go_wp2_with fail
      go_quiet (fail)
      go_wp2_with fail
      first | (go_region_with (first | (have hz1 := HQ1; clear hz1; go_at_call 63; refine (unhide HC2 _ ((unhide HPO) _ (unhide HQ1)).2).mono ?_; rintro e w2 ⟨rfl, hb1⟩; have hb2 : Below Q.heap.size Q w2 := Below.trans (unhide HQ1) (hb1.mono (by first | (rw [unhide HQ]; simp; done) | exact (unhide HQ1).size)); have HQ2 := hide hb2; obtain ⟨ct2, hbw⟩ := unhide HPO _ hb2; have HW2 := hide hbw; clear hb1 hb2 hbw) | (go_at_call 63; refine (unhide HC1 _ ((unhide HPO) _ (by rw [unhide HQ]; repeat (first | exact Below.refl _ _ | refine Below.drew ?_ | refine Below.drewN ?_ _))).2).mono ?_; rintro e w1 ⟨rfl, hb1⟩; have hb2 : Below Q.heap.size Q w1 := Below.trans (by rw [unhide HQ]; repeat (first | exact Below.refl _ _ | refine Below.drew ?_ | refine Below.drewN ?_ _)) (hb1.mono (by first | (rw [unhide HQ]; simp; done) | exact (unhide HQ1).size)); have HQ1 := hide hb2; obtain ⟨ct1, hbw⟩ := unhide HPO _ hb2; have HW1 := hide hbw; clear hb1 hb2 hbw))) | fail
      all_goals go_wp2_with fail
      all_goals go_ret
      all_goals first | exact ⟨rfl, unhide HW2⟩ | exact ⟨ret_bool (unhide HE), unhide HW2⟩
    | true =>
      rw [q2, Bool.true_and] at HR
      have HC2 := hide (fun v hv => unhide HA _ eg_fun isF isFunction_any (some ⟨b, off + 1, none⟩) 1 (c2 - 1) ((kids.take 2).drop 1) v hv (((unhide HK).take 2 (by omega)).drop rfl 1 (by omega)) (in_drop (in_take (unhide HZ) (by omega)) 1 1 (by omega)) true q2)
      have HC3 := hide (fun v hv => unhide HA _ eg_expr isE isExpr_any (some ⟨b, off + 2, none⟩) (n2 - 2) (c2 - 2) (kids.drop 2) v hv ((unhide HK).drop rfl 2 (by omega)) (in_drop (unhide HZ) 2 (n2 - 2) (by omega)) r (unhide HR))
      clear HR HA hn hc0 hlen hkl HK HZ q2
      go_enter Tryz.func32, Tryz.ntmps32
      go_wp2_with fail
      go_quiet (fail)
      go_wp2_with fail
      first | (go_region_with (first | (have hz2 := HQ2; clear hz2; go_at_call 63; refine (unhide HC3 _ ((unhide HPO) _ (unhide HQ2)).2).mono ?_; rintro e w3 ⟨rfl, hb1⟩; have hb2 : Below Q.heap.size Q w3 := Below.trans (unhide HQ2) (hb1.mono (by first | (rw [unhide HQ]; simp; done) | exact (unhide HQ2).size)); have HQ3 := hide hb2; obtain ⟨ct3, hbw⟩ := unhide HPO _ hb2; have HW3 := hide hbw; clear hb1 hb2 hbw) | (have hz1 := HQ1; clear hz1; go_at_call 63; refine (unhide HC2 _ ((unhide HPO) _ (unhide HQ1)).2).mono ?_; rintro e w2 ⟨rfl, hb1⟩; have hb2 : Below Q.heap.size Q w2 := Below.trans (unhide HQ1) (hb1.mono (by first | (rw [unhide HQ]; simp; done) | exact (unhide HQ1).size)); have HQ2 := hide hb2; obtain ⟨ct2, hbw⟩ := unhide HPO _ hb2; have HW2 := hide hbw; clear hb1 hb2 hbw) | (go_at_call 63; refine (unhide HC1 _ ((unhide HPO) _ (by rw [unhide HQ]; repeat (first | exact Below.refl _ _ | refine Below.drew ?_ | refine Below.drewN ?_ _))).2).mono ?_; rintro e w1 ⟨rfl, hb1⟩; have hb2 : Below Q.heap.size Q w1 := Below.trans (by rw [unhide HQ]; repeat (first | exact Below.refl _ _ | refine Below.drew ?_ | refine Below.drewN ?_ _)) (hb1.mono (by first | (rw [unhide HQ]; simp; done) | exact (unhide HQ1).size)); have HQ1 := hide hb2; obtain ⟨ct1, hbw⟩ := unhide HPO _ hb2; have HW1 := hide hbw; clear hb1 hb2 hbw))) | fail
      all_goals go_wp2_with fail
      all_goals go_ret
      all_goals first | exact ⟨rfl, unhide HW3⟩ | exact ⟨ret_bool (unhide HE), unhide HW3⟩

end Go.Proofs.YtinndpnilmmmjaaGreatDoor
