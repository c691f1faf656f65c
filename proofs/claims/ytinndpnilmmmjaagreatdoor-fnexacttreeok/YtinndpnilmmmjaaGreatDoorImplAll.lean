import Derived.Test.YtinndpnilmmmjaaGreatDoorImplKind
import Derived.Test.YtinndpnilmmmjaaGreatDoorMFit0
import Derived.Test.YtinndpnilmmmjaaGreatDoorMFit0
import Derived.Test.YtinndpnilmmmjaaGreatDoorMFit0
namespace Go.Proofs.YtinndpnilmmmjaaGreatDoor
open Go.RowKit

set_option maxHeartbeats 4000000 in
theorem isPrim_any (a : Option Addr) (n cap : Nat) (ns : List NodeD) (w : World) (h : NRowW w a n ns) (z : Nat) (hz : z < n) (lo hi : Int) :
    Calls Tryz.prog 119 #[.agg #[.slice a n cap], .int .i64 (z : Nat), .int .i64 lo, .int .i64 hi] w fun e w' => e = .returned (.bool (primB (node ns z) lo hi)) ∧ Below w.heap.size w w' := by
  obtain ⟨r, hr⟩ : ∃ r, primB (node ns z) lo hi = r := ⟨_, rfl⟩
  rw [hr]
  have HR : Hid (decide ((node ns z).k = 11 ∧ lo ≤ (node ns z).n ∧ (node ns z).n ≤ hi) = r) := hr
  clear hr
  have hzi : (z : Int) < (n : Int) := by omega
  have hBX : ∀ o1 o2 : Obj, Below w.heap.size w ((w.alloc o1).alloc o2) := fun o1 o2 => ((Below.refl _ _).alloc (Nat.le_refl _) _).alloc (by simp) _
  have HBX := hide hBX
  obtain ⟨b, off, rfl, hbl, s1, n1, c1, s2, n2, c2, e0, e1, e2, e3, e4, e5, r1, r2⟩ := h.get hz
  obtain ⟨xk, hxk⟩ : ∃ x, (node ns z).k = x := ⟨_, rfl⟩
  obtain ⟨xn, hxn⟩ : ∃ x, (node ns z).n = x := ⟨_, rfl⟩
  obtain ⟨xm, hxm⟩ : ∃ x, (node ns z).m = x := ⟨_, rfl⟩
  obtain ⟨xs, hxs⟩ : ∃ x, (node ns z).s = x := ⟨_, rfl⟩
  rw [hxk] at e0 HR
  rw [hxn] at e1 HR
  rw [hxm] at e2
  rw [hxs] at e3
  clear hxk hxn hxm hxs r1 r2 h hBX
  by_cases h11 : xk = 11
  · subst h11
    have HW := hide (fun W => withinOk xn lo hi r (by rw [← unhide HR]; simp) W)
    clear HR
    go_enter Tryz.func119, Tryz.ntmps119
    go_wp2_with (first | (go_at_call 29; refine (unhide HW _).mono ?_; rintro e w1 ⟨rfl, hw1⟩; obtain rfl := hw1.symm))
    go_ret
    exact ⟨rfl, unhide HBX _ _⟩
  · have hf := ne_false h11
    have HE : Hid (false = r) := by show _ = _; rw [← unhide HR, decide_eq_false (fun h => h11 h.1)]
    clear HR h11
    go_enter Tryz.func119, Tryz.ntmps119
    go_wp2_with fail
    go_ret
    exact ⟨ret_bool (unhide HE), unhide HBX _ _⟩

set_option maxHeartbeats 4000000 in
theorem areAll_any (g : Nat) (eg : ∀ args w, (callFunc g args).run Tryz.prog w = .ok (.enter g args) w) (p : Int → Bool) (hp : KindSaid g p) (a : Option Addr) (n cap : Nat) (ns : List NodeD) (b : Option Addr) (m c : Nat) (zs : List Int) (w : World) (h : NRow w a n ns) (hb : Row w b m zs) (hz : ∀ q, q < m → 0 ≤ zs.getD q 0 ∧ zs.getD q 0 < n) :
    Calls Tryz.prog 63 #[.agg #[.slice a n cap], .slice b m c, .func (.func g) #[] #[]] w fun e w' => e = .returned (.bool ((kinds ns zs).all p)) ∧ Below w.heap.size w w' := by
  have hlen := hb.len
  have hsm := hb.small
  have hkl := kinds_len ns zs
  have H := hide h
  have HB := hide hb
  have HZ := hide hz
  have HP := hide hp
  have HBX : Hid (∀ o1 : Obj, Below w.heap.size w (w.alloc o1)) := fun o1 => (Below.refl _ _).alloc (Nat.le_refl _) _
  obtain ⟨Q, hQ⟩ : ∃ Q, Q = w.alloc (.cells #[.slice a n cap] 29) := ⟨_, rfl⟩
  have HQ := hide hQ
  have HBQ : Hid (Below w.heap.size w Q) := by rw [hQ]; exact (Below.refl _ _).alloc (Nat.le_refl _) _
  have hQlt : w.heap.size < Q.heap.size := by rw [hQ]; simp
  have HQC : Hid (Q.cell? ⟨w.heap.size, 0, none⟩ = some (.slice a n cap)) := by rw [hQ]; show (w.alloc _).cell? _ = _; simp
  clear h hb hz hp hQ
  go_enter Tryz.func63, Tryz.ntmps63
  go_wp2_with fail
  rw [← unhide HQ]
  go_loopw [11] (fun i wr => ∃ k : Nat, k ≤ m ∧ i = .int .i64 k ∧ Hid (((kinds ns zs).take k).all p = true) ∧ Hid (Below Q.heap.size Q wr)) (fun i _ => m - (intOf i).toNat)
  case atStart => exact ⟨0, Nat.zero_le _, rfl, rfl, Below.refl _ _⟩
  case round =>
    obtain ⟨k, hk, rfl, HA, HBL⟩ := hrel
    have hbW := (unhide HBQ).trans ((unhide HBL).mono (by omega))
    have HBW := hide hbW
    by_cases hlt : k < m
    · have ct : wr.cell? ⟨w.heap.size, 0, none⟩ = some (.slice a n cap) := ((unhide HBL).cell (p := ⟨w.heap.size, 0, none⟩) hQlt).trans (unhide HQC)
      obtain ⟨b1, o1, rfl, hb1l, hc1⟩ := ((unhide HB).below (Nat.le_refl _) hbW).get hlt
      have hzk := unhide HZ k hlt
      obtain ⟨z, hzz⟩ : ∃ z : Nat, zs.getD k 0 = (z : Int) := ⟨(zs.getD k 0).toNat, by omega⟩
      rw [hzz] at hc1 hzk
      obtain ⟨b2, off, rfl, hbl, s1, n1, c1, s2, n2, c2, e0, e1, e2, e3, e4, e5, r1, r2⟩ := ((unhide H).below (Nat.le_refl _) hbW).get (k := z) (by omega)
      have hkd : (kinds ns zs).getD k 0 = (node ns z).k := by rw [kinds_get (by omega), hzz]; rfl
      obtain ⟨xk, hxk⟩ : ∃ x, (node ns z).k = x := ⟨_, rfl⟩
      obtain ⟨xn, hxn⟩ : ∃ x, (node ns z).n = x := ⟨_, rfl⟩
      obtain ⟨xm, hxm⟩ : ∃ x, (node ns z).m = x := ⟨_, rfl⟩
      obtain ⟨xs, hxs⟩ : ∃ x, (node ns z).s = x := ⟨_, rfl⟩
      rw [hxk] at e0 hkd
      rw [hxn] at e1
      rw [hxm] at e2
      rw [hxs] at e3
      have HKD := hide hkd
      have hlti : (k : Int) < (m : Int) := by omega
      have hzn : (z : Int) < (n : Int) := by omega
      clear hxk hxn hxm hxs r1 r2 hzz hkd hzk hbW
      cases hq : p xk with
      | true =>
        have HC := hide (fun v1 v2 v3 v4 v5 W => kindOk (unhide HP) xk true hq v1 v2 v3 v4 v5 W)
        have HT : Hid (((kinds ns zs).take (k + 1)).all p = true) := all_take (by omega) (unhide HA) (by rw [unhide HKD]; exact hq)
        clear hq
        go_wp2_with (go_at_fn g; refine (unhide HC _ _ _ _ _ _).mono ?_; rintro e w1 ⟨rfl, hb1⟩; have HB1 := hide ((unhide HBL).trans (hb1.mono (unhide HBL).size)); clear hb1)
        go_roundw
        case rel => exact ⟨k + 1, by omega, by go_num, HT, HB1⟩
        case measure => simp [intOf]; omega
      | false =>
        have HC := hide (fun v1 v2 v3 v4 v5 W => kindOk (unhide HP) xk false hq v1 v2 v3 v4 v5 W)
        have HT : Hid ((kinds ns zs).all p = false) := all_false (k := k) (by omega) (by rw [unhide HKD]; exact hq)
        clear hq
        go_wp2_with (go_at_fn g; refine (unhide HC _ _ _ _ _ _).mono ?_; rintro e w1 ⟨rfl, hb1⟩; have HB1 := hide ((unhide HBW).trans (hb1.mono (unhide HBW).size)); clear hb1)
        go_ret
        exact ⟨ret_bool (unhide HT).symm, unhide HB1⟩
    · have hkn : k = m := by omega
      have hlti : ¬ (k : Int) < (m : Int) := by omega
      have HT : Hid ((kinds ns zs).all p = true) := by have := unhide HA; rwa [List.take_of_length_le (by omega)] at this
      clear hbW
      go_wp2
      go_ret
      exact ⟨ret_bool (unhide HT).symm, unhide HBW⟩

theorem allIs (g : Nat) (eg : ∀ args w, (callFunc g args).run Tryz.prog w = .ok (.enter g args) w) (p : Int → Bool) (hp : KindSaid g p) (a : Option Addr) (n cap : Nat) (ns : List NodeD) (b : Option Addr) (m c : Nat) (zs : List Int) (w : World) (h : NRow w a n ns) (hb : Row w b m zs) (hz : ∀ q, q < m → 0 ≤ zs.getD q 0 ∧ zs.getD q 0 < n) (r : Bool) (hr : (kinds ns zs).all p = r) :
    Calls Tryz.prog 63 #[.agg #[.slice a n cap], .slice b m c, .func (.func g) #[] #[]] w fun e w' => e = .returned (.bool r) ∧ Below w.heap.size w w' := by
  rw [← hr]; exact areAll_any g eg p hp a n cap ns b m c zs w h hb hz

end Go.Proofs.YtinndpnilmmmjaaGreatDoor
