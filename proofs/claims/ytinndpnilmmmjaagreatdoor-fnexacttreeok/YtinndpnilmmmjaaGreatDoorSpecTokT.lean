import Derived.Test.YtinndpnilmmmjaaGreatDoorSpecQuote
import Derived.Test.YtinndpnilmmmjaaGreatDoorMFit2
import Derived.Test.YtinndpnilmmmjaaGreatDoorSpecLex
import Derived.Test.YtinndpnilmmmjaaGreatDoorTokRow
import Derived.Test.YtinndpnilmmmjaaGreatDoorSpecDec
import Derived.Test.YtinndpnilmmmjaaGreatDoorMFit1
import Derived.BigQuiet
namespace Go.Proofs.YtinndpnilmmmjaaGreatDoor
open Go.RowKit

theorem RowT.one {w : World} {g : Nat} {y : Tok} (h : RowT w (some ⟨g, 0, none⟩) 1 [y]) : w.cell? ⟨g, 0, none⟩ = some (.int .i64 y.k) ∧ w.cell? ⟨g, 1, none⟩ = some (.int .i64 y.n) ∧ w.cell? ⟨g, 2, none⟩ = some (.string y.t) ∧ w.cell? ⟨g, 3, none⟩ = some (.int .i64 (y.p : Nat)) := by
  obtain ⟨b, off, t, e, _, et, a0, a1, a2, a3⟩ := h.get (j := 0) (by omega)
  cases e
  have : y = t := by simpa using et
  subst this
  exact ⟨by simpa using a0, by simpa using a1, by simpa using a2, by simpa using a3⟩

set_option maxRecDepth 20000 in
set_option maxHeartbeats 4000000 in
theorem specTok_num (n at' : Int) (t : ByteArray) (w : World) (hn : -1000000000000000 ≤ n ∧ n ≤ 1000000000000000) :
    Calls Tryz.prog 55 #[.agg #[.int .i64 1, .int .i64 n, .string t, .int .i64 at']] w fun e w' => e = .returned (.string (if backB 1 n t (lexT (bstr (numT n))) = true then (bstr (numT n)) else ⟨#[]⟩)) ∧ Below w.heap.size w w' := by
  obtain ⟨x, hx⟩ : ∃ x : ByteArray, (bstr (numT n)) = x := ⟨_, rfl⟩
  rw [hx]
  obtain ⟨r, hr⟩ : ∃ r, lexT x = r := ⟨_, rfl⟩
  rw [hr]
  have HRR := hide hr
  obtain ⟨ts, cd, pl⟩ := r
  obtain ⟨res, hres⟩ : ∃ res, (if backB 1 n t (ts, cd, pl) = true then x else ⟨#[]⟩) = res := ⟨_, rfl⟩
  rw [hres]
  have HRES := hide hres
  clear hr hres
  obtain ⟨Q, hQ⟩ : ∃ Q, Q = w.alloc (.cells #[.int .i64 1, .int .i64 n, .string t, .int .i64 at'] 64) := ⟨_, rfl⟩
  have HQ := hide hQ
  have HXQ : Hid (TBox Q w.heap.size (.int .i64 1) (.int .i64 n) (.string t) (.int .i64 at')) := by rw [hQ]; exact TBox.new w _ _ _ _
  have HBQ : Hid (Below w.heap.size w Q) := by rw [hQ]; exact (Below.refl _ _).alloc (Nat.le_refl _) _
  clear hQ
  have hxs : x.size ≤ 21 := by rw [← hx, bstr_size]; exact (numT_parts n (by omega)).1
  have HD : Hid (∀ W, Calls Tryz.prog 73 #[.int .i64 n] W fun e w' => e = .returned (.string x) ∧ Below W.heap.size W w') := hide fun W => by rw [← hx]; exact l1Dec_any n hn W
  have hg1 : ¬ 1000000000000000 < n := by omega
  have hg2 : ¬ n < -1000000000000000 := by omega
  clear hx hn
  go_enter Tryz.func55, Tryz.ntmps55
  go_wp2_with (first | (go_at_call 73; refine (unhide HD _).mono ?_; rintro e w5 ⟨rfl, hb5⟩; rw [← unhide HQ] at hb5; have HB0 := hide ((unhide HBQ).trans (hb5.mono (unhide HBQ).size)); have HX0 := hide ((unhide HXQ).below (Nat.le_refl _) hb5); obtain ⟨cap, W1, hcv, hcap, hrow, hbW, hzW⟩ := conv_str w5 x; have HL := hide (specLex_any w5.heap.size 0 cap x W1 hrow (by omega)); have HB1 := hide ((unhide HB0).trans (hbW.mono (unhide HB0).size)); have HX1 := hide ((unhide HX0).below (Nat.le_refl _) hbW); clear hcap hrow hbW hzW hb5) | (go_at_call 42; refine (unhide HL).mono ?_; rintro e w6 ⟨g6, n6, c6, he, hR6, hb6⟩; rw [unhide HRR] at he hR6; have he' : e = .returned (.tuple #[.slice (some ⟨g6, 0, none⟩) n6 c6, .int .i64 cd, .int .i64 (pl : Nat)]) := he; subst he'; have HB6 := hide ((unhide HB1).trans (hb6.mono (unhide HB1).size)); have HX6 := hide ((unhide HX1).below (Nat.le_refl _) hb6); have HR6 : Hid (RowT w6 (some ⟨g6, 0, none⟩) n6 ts) := hR6; obtain ⟨q0, q1, q2, q3, f0, f1, f2, f3⟩ := (unhide HX6).all; clear he hR6 hb6))
  have HX6 := HX6
  by_cases hcd : cd = 0
  case neg =>
    have hd : (cd != 0) = true := by simpa using hcd
    have HE : Hid (backB 1 n t (ts, cd, pl) = false) := backB_code hcd
    clear hcd
    go_quiet (fail)
    go_wp2_with fail
    go_ret
    exact ⟨by rw [← unhide HRES, unhide HE]; rfl, Below.drewN (unhide HB6) _⟩
  subst hcd
  by_cases hn1 : n6 = 1
  case neg =>
    have hd : ((n6 : Int) != 1) = true := by simp; omega
    have HE : Hid (backB 1 n t (ts, 0, pl) = false) := backB_many (fun e => hn1 (by rw [← (unhide HR6).len]; exact e))
    clear hn1
    go_quiet (fail)
    go_wp2_with fail
    go_ret
    exact ⟨by rw [← unhide HRES, unhide HE]; rfl, Below.drewN (unhide HB6) _⟩
  subst hn1
  obtain ⟨y, rfl⟩ : ∃ y, ts = [y] := by
    have h := (unhide HR6).len
    match ts, h with
    | [y], _ => exact ⟨y, rfl⟩
  obtain ⟨y0, y1, y2, y3⟩ := (unhide HR6).one
  have HBB : Hid (backB 1 n t ([y], 0, pl) = (decide (y.k = 1) && decide (y.n = n) && decide (y.t = t))) := by show _ = _; unfold backB; simp
  obtain ⟨yk, yn, yt, yp⟩ := y
  by_cases e1 : yk = 1
  case neg =>
    have hd : (yk != 1) = true := by simpa using e1
    have HE : Hid (backB 1 n t ([⟨yk, yn, yt, yp⟩], 0, pl) = false) := by show _ = _; rw [unhide HBB, decide_eq_false e1]; rfl
    clear e1
    go_quiet (fail)
    go_wp2_with fail
    go_ret
    exact ⟨by rw [← unhide HRES, unhide HE]; rfl, Below.drewN (unhide HB6) _⟩
  subst e1
  by_cases e3 : yt = t
  case neg =>
    have hd := bytes_ne e3
    have HE : Hid (backB 1 n t ([⟨1, yn, yt, yp⟩], 0, pl) = false) := by show _ = _; rw [unhide HBB, decide_eq_false e3, Bool.and_false]
    clear e3
    go_quiet (fail)
    go_wp2_with fail
    go_ret
    exact ⟨by rw [← unhide HRES, unhide HE]; rfl, Below.drewN (unhide HB6) _⟩
  subst e3
  by_cases e2 : yn = n
  case neg =>
    have hd : (yn != n) = true := by simpa using e2
    have HE : Hid (backB 1 n yt ([⟨1, yn, yt, yp⟩], 0, pl) = false) := by show _ = _; rw [unhide HBB, decide_eq_false e2]; simp
    clear e2
    go_quiet (fail)
    go_wp2_with fail
    go_ret
    exact ⟨by rw [← unhide HRES, unhide HE]; rfl, Below.drewN (unhide HB6) _⟩
  subst e2
  have HE : Hid (backB 1 yn yt ([⟨1, yn, yt, yp⟩], 0, pl) = true) := by show _ = _; rw [unhide HBB]; simp
  go_quiet (fail)
  go_wp2_with fail
  go_ret
  exact ⟨by rw [← unhide HRES, unhide HE]; rfl, Below.drewN (unhide HB6) _⟩

set_option maxRecDepth 20000 in
set_option maxHeartbeats 4000000 in
theorem specTok_text (n at' : Int) (t : ByteArray) (w : World) (hn : t.size ≤ 2000) :
    Calls Tryz.prog 55 #[.agg #[.int .i64 2, .int .i64 n, .string t, .int .i64 at']] w fun e w' => e = .returned (.string (if backB 2 n t (lexT ⟨(quoteL t.data.toList).toArray⟩) = true then ⟨(quoteL t.data.toList).toArray⟩ else ⟨#[]⟩)) ∧ Below w.heap.size w w' := by
  obtain ⟨x, hx⟩ : ∃ x : ByteArray, ⟨(quoteL t.data.toList).toArray⟩ = x := ⟨_, rfl⟩
  rw [hx]
  obtain ⟨r, hr⟩ : ∃ r, lexT x = r := ⟨_, rfl⟩
  rw [hr]
  have HRR := hide hr
  obtain ⟨ts, cd, pl⟩ := r
  obtain ⟨res, hres⟩ : ∃ res, (if backB 2 n t (ts, cd, pl) = true then x else ⟨#[]⟩) = res := ⟨_, rfl⟩
  rw [hres]
  have HRES := hide hres
  clear hr hres
  obtain ⟨Q, hQ⟩ : ∃ Q, Q = w.alloc (.cells #[.int .i64 2, .int .i64 n, .string t, .int .i64 at'] 64) := ⟨_, rfl⟩
  have HQ := hide hQ
  have HXQ : Hid (TBox Q w.heap.size (.int .i64 2) (.int .i64 n) (.string t) (.int .i64 at')) := by rw [hQ]; exact TBox.new w _ _ _ _
  have HBQ : Hid (Below w.heap.size w Q) := by rw [hQ]; exact (Below.refl _ _).alloc (Nat.le_refl _) _
  clear hQ
  have hxs : x.size ≤ 4002 := by
    rw [← hx]
    show (quoteL t.data.toList).toArray.size ≤ 4002
    have := (qd_len t.data.toList).1
    rw [← Lib.size_eq] at this
    unfold quoteL
    unfold qd at this
    rw [List.size_toArray, List.length_cons, List.length_append]
    simp only [List.length_cons, List.length_nil]
    omega
  have HD : Hid (∀ W, Calls Tryz.prog 74 #[.string t] W fun e w' => e = .returned (.string x) ∧ Below W.heap.size W w') := hide fun W => by rw [← hx]; exact l1Quote_any t W (by omega)
  have hg1 : ¬ (2000 : Int) < (t.size : Int) := by omega
  clear hx hn
  go_enter Tryz.func55, Tryz.ntmps55
  go_wp2_with (first | (go_at_call 74; refine (unhide HD _).mono ?_; rintro e w5 ⟨rfl, hb5⟩; rw [← unhide HQ] at hb5; have HB0 := hide ((unhide HBQ).trans (hb5.mono (unhide HBQ).size)); have HX0 := hide ((unhide HXQ).below (Nat.le_refl _) hb5); obtain ⟨cap, W1, hcv, hcap, hrow, hbW, hzW⟩ := conv_str w5 x; have HL := hide (specLex_any w5.heap.size 0 cap x W1 hrow (by omega)); have HB1 := hide ((unhide HB0).trans (hbW.mono (unhide HB0).size)); have HX1 := hide ((unhide HX0).below (Nat.le_refl _) hbW); clear hcap hrow hbW hzW hb5) | (go_at_call 42; refine (unhide HL).mono ?_; rintro e w6 ⟨g6, n6, c6, he, hR6, hb6⟩; rw [unhide HRR] at he hR6; have he' : e = .returned (.tuple #[.slice (some ⟨g6, 0, none⟩) n6 c6, .int .i64 cd, .int .i64 (pl : Nat)]) := he; subst he'; have HB6 := hide ((unhide HB1).trans (hb6.mono (unhide HB1).size)); have HX6 := hide ((unhide HX1).below (Nat.le_refl _) hb6); have HR6 : Hid (RowT w6 (some ⟨g6, 0, none⟩) n6 ts) := hR6; obtain ⟨q0, q1, q2, q3, f0, f1, f2, f3⟩ := (unhide HX6).all; clear he hR6 hb6))
  have HX6 := HX6
  by_cases hcd : cd = 0
  case neg =>
    have hd : (cd != 0) = true := by simpa using hcd
    have HE : Hid (backB 2 n t (ts, cd, pl) = false) := backB_code hcd
    clear hcd
    go_quiet (fail)
    go_wp2_with fail
    go_ret
    exact ⟨by rw [← unhide HRES, unhide HE]; rfl, Below.drewN (unhide HB6) _⟩
  subst hcd
  by_cases hn1 : n6 = 1
  case neg =>
    have hd : ((n6 : Int) != 1) = true := by simp; omega
    have HE : Hid (backB 2 n t (ts, 0, pl) = false) := backB_many (fun e => hn1 (by rw [← (unhide HR6).len]; exact e))
    clear hn1
    go_quiet (fail)
    go_wp2_with fail
    go_ret
    exact ⟨by rw [← unhide HRES, unhide HE]; rfl, Below.drewN (unhide HB6) _⟩
  subst hn1
  obtain ⟨y, rfl⟩ : ∃ y, ts = [y] := by
    have h := (unhide HR6).len
    match ts, h with
    | [y], _ => exact ⟨y, rfl⟩
  obtain ⟨y0, y1, y2, y3⟩ := (unhide HR6).one
  have HBB : Hid (backB 2 n t ([y], 0, pl) = (decide (y.k = 2) && decide (y.n = n) && decide (y.t = t))) := by show _ = _; unfold backB; simp
  obtain ⟨yk, yn, yt, yp⟩ := y
  by_cases e1 : yk = 2
  case neg =>
    have hd : (yk != 2) = true := by simpa using e1
    have HE : Hid (backB 2 n t ([⟨yk, yn, yt, yp⟩], 0, pl) = false) := by show _ = _; rw [unhide HBB, decide_eq_false e1]; rfl
    clear e1
    go_quiet (fail)
    go_wp2_with fail
    go_ret
    exact ⟨by rw [← unhide HRES, unhide HE]; rfl, Below.drewN (unhide HB6) _⟩
  subst e1
  by_cases e3 : yt = t
  case neg =>
    have hd := bytes_ne e3
    have HE : Hid (backB 2 n t ([⟨2, yn, yt, yp⟩], 0, pl) = false) := by show _ = _; rw [unhide HBB, decide_eq_false e3, Bool.and_false]
    clear e3
    go_quiet (fail)
    go_wp2_with fail
    go_ret
    exact ⟨by rw [← unhide HRES, unhide HE]; rfl, Below.drewN (unhide HB6) _⟩
  subst e3
  by_cases e2 : yn = n
  case neg =>
    have hd : (yn != n) = true := by simpa using e2
    have HE : Hid (backB 2 n yt ([⟨2, yn, yt, yp⟩], 0, pl) = false) := by show _ = _; rw [unhide HBB, decide_eq_false e2]; simp
    clear e2
    go_quiet (fail)
    go_wp2_with fail
    go_ret
    exact ⟨by rw [← unhide HRES, unhide HE]; rfl, Below.drewN (unhide HB6) _⟩
  subst e2
  have HE : Hid (backB 2 yn yt ([⟨2, yn, yt, yp⟩], 0, pl) = true) := by show _ = _; rw [unhide HBB]; simp
  go_quiet (fail)
  go_wp2_with fail
  go_ret
  exact ⟨by rw [← unhide HRES, unhide HE]; rfl, Below.drewN (unhide HB6) _⟩

set_option maxRecDepth 20000 in
set_option maxHeartbeats 4000000 in
theorem specTok_other (k n at' : Int) (t : ByteArray) (w : World) (hk1 : k ≠ 1) (hk2 : k ≠ 2) (hs : t.size ≤ 1048576) :
    Calls Tryz.prog 55 #[.agg #[.int .i64 k, .int .i64 n, .string t, .int .i64 at']] w fun e w' => e = .returned (.string (if backB k n t (lexT t) = true then t else ⟨#[]⟩)) ∧ Below w.heap.size w w' := by
  obtain ⟨r, hr⟩ : ∃ r, lexT t = r := ⟨_, rfl⟩
  rw [hr]
  have HRR := hide hr
  obtain ⟨ts, cd, pl⟩ := r
  obtain ⟨res, hres⟩ : ∃ res, (if backB k n t (ts, cd, pl) = true then t else ⟨#[]⟩) = res := ⟨_, rfl⟩
  rw [hres]
  have HRES := hide hres
  clear hr hres
  obtain ⟨Q, hQ⟩ : ∃ Q, Q = w.alloc (.cells #[.int .i64 k, .int .i64 n, .string t, .int .i64 at'] 64) := ⟨_, rfl⟩
  have HQ := hide hQ
  have HXQ : Hid (TBox Q w.heap.size (.int .i64 k) (.int .i64 n) (.string t) (.int .i64 at')) := by rw [hQ]; exact TBox.new w _ _ _ _
  have HBQ : Hid (Below w.heap.size w Q) := by rw [hQ]; exact (Below.refl _ _).alloc (Nat.le_refl _) _
  clear hQ
  have e1 : (k == 1) = false := by simpa using hk1
  have e2 : (k == 2) = false := by simpa using hk2
  have HB0 := HBQ
  have HX0 := HXQ
  obtain ⟨cap, W1, hcv, hcap, hrow, hbW, hzW⟩ := conv_str Q t; have HL := hide (specLex_any Q.heap.size 0 cap t W1 hrow (by omega)); have HB1 := hide ((unhide HB0).trans (hbW.mono (unhide HB0).size)); have HX1 := hide ((unhide HX0).below (Nat.le_refl _) hbW)
  have hqz : Q.heap.size = w.heap.size + 1 := by rw [unhide HQ]; simp
  rw [hqz] at hcv HL
  rw [unhide HQ] at hcv
  clear hcap hrow hbW hzW hk1 hk2 hqz
  go_enter Tryz.func55, Tryz.ntmps55
  go_wp2_with (first | (go_at_call 42; refine (unhide HL).mono ?_; rintro e w6 ⟨g6, n6, c6, he, hR6, hb6⟩; rw [unhide HRR] at he hR6; have he' : e = .returned (.tuple #[.slice (some ⟨g6, 0, none⟩) n6 c6, .int .i64 cd, .int .i64 (pl : Nat)]) := he; subst he'; have HB6 := hide ((unhide HB1).trans (hb6.mono (unhide HB1).size)); have HX6 := hide ((unhide HX1).below (Nat.le_refl _) hb6); have HR6 : Hid (RowT w6 (some ⟨g6, 0, none⟩) n6 ts) := hR6; obtain ⟨q0, q1, q2, q3, f0, f1, f2, f3⟩ := (unhide HX6).all; clear he hR6 hb6))
  have HX6 := HX6
  by_cases hcd : cd = 0
  case neg =>
    have hd : (cd != 0) = true := by simpa using hcd
    have HE : Hid (backB k n t (ts, cd, pl) = false) := backB_code hcd
    clear hcd
    go_quiet (fail)
    go_wp2_with fail
    go_ret
    exact ⟨by rw [← unhide HRES, unhide HE]; rfl, Below.drewN (unhide HB6) _⟩
  subst hcd
  by_cases hn1 : n6 = 1
  case neg =>
    have hd : ((n6 : Int) != 1) = true := by simp; omega
    have HE : Hid (backB k n t (ts, 0, pl) = false) := backB_many (fun e => hn1 (by rw [← (unhide HR6).len]; exact e))
    clear hn1
    go_quiet (fail)
    go_wp2_with fail
    go_ret
    exact ⟨by rw [← unhide HRES, unhide HE]; rfl, Below.drewN (unhide HB6) _⟩
  subst hn1
  obtain ⟨y, rfl⟩ : ∃ y, ts = [y] := by
    have h := (unhide HR6).len
    match ts, h with
    | [y], _ => exact ⟨y, rfl⟩
  obtain ⟨y0, y1, y2, y3⟩ := (unhide HR6).one
  have HBB : Hid (backB k n t ([y], 0, pl) = (decide (y.k = k) && decide (y.n = n) && decide (y.t = t))) := by show _ = _; unfold backB; simp
  obtain ⟨yk, yn, yt, yp⟩ := y
  by_cases e1 : yk = k
  case neg =>
    have hd : (yk != k) = true := by simpa using e1
    have HE : Hid (backB k n t ([⟨yk, yn, yt, yp⟩], 0, pl) = false) := by show _ = _; rw [unhide HBB, decide_eq_false e1]; rfl
    clear e1
    go_quiet (fail)
    go_wp2_with fail
    go_ret
    exact ⟨by rw [← unhide HRES, unhide HE]; rfl, Below.drewN (unhide HB6) _⟩
  subst e1
  by_cases e3 : yt = t
  case neg =>
    have hd := bytes_ne e3
    have HE : Hid (backB yk n t ([⟨yk, yn, yt, yp⟩], 0, pl) = false) := by show _ = _; rw [unhide HBB, decide_eq_false e3, Bool.and_false]
    clear e3
    go_quiet (fail)
    go_wp2_with fail
    go_ret
    exact ⟨by rw [← unhide HRES, unhide HE]; rfl, Below.drewN (unhide HB6) _⟩
  subst e3
  by_cases e2 : yn = n
  case neg =>
    have hd : (yn != n) = true := by simpa using e2
    have HE : Hid (backB yk n yt ([⟨yk, yn, yt, yp⟩], 0, pl) = false) := by show _ = _; rw [unhide HBB, decide_eq_false e2]; simp
    clear e2
    go_quiet (fail)
    go_wp2_with fail
    go_ret
    exact ⟨by rw [← unhide HRES, unhide HE]; rfl, Below.drewN (unhide HB6) _⟩
  subst e2
  have HE : Hid (backB yk yn yt ([⟨yk, yn, yt, yp⟩], 0, pl) = true) := by show _ = _; rw [unhide HBB]; simp
  go_quiet (fail)
  go_wp2_with fail
  go_ret
  exact ⟨by rw [← unhide HRES, unhide HE]; rfl, Below.drewN (unhide HB6) _⟩

set_option maxRecDepth 20000 in
set_option maxHeartbeats 2000000 in
theorem specTok_big (n at' : Int) (t : ByteArray) (w : World) (hn : 1000000000000000 < n ∨ n < -1000000000000000) :
    Calls Tryz.prog 55 #[.agg #[.int .i64 1, .int .i64 n, .string t, .int .i64 at']] w fun e w' => e = .returned (.string ⟨#[]⟩) ∧ Below w.heap.size w w' := by
  by_cases h1 : 1000000000000000 < n
  · clear hn
    go_enter Tryz.func55, Tryz.ntmps55
    go_wp2_with fail
    go_ret
    exact ⟨rfl, (Below.refl _ _).alloc (Nat.le_refl _) _⟩
  · have h2 : n < -1000000000000000 := by omega
    clear hn
    go_enter Tryz.func55, Tryz.ntmps55
    go_wp2_with fail
    go_ret
    exact ⟨rfl, (Below.refl _ _).alloc (Nat.le_refl _) _⟩

set_option maxRecDepth 20000 in
set_option maxHeartbeats 2000000 in
theorem specTok_long (n at' : Int) (t : ByteArray) (w : World) (hn : 2000 < t.size) :
    Calls Tryz.prog 55 #[.agg #[.int .i64 2, .int .i64 n, .string t, .int .i64 at']] w fun e w' => e = .returned (.string ⟨#[]⟩) ∧ Below w.heap.size w w' := by
  have h1 : (2000 : Int) < (t.size : Int) := by omega
  go_enter Tryz.func55, Tryz.ntmps55
  go_wp2_with fail
  go_ret
  exact ⟨rfl, (Below.refl _ _).alloc (Nat.le_refl _) _⟩

end Go.Proofs.YtinndpnilmmmjaaGreatDoor
