import Derived.Test.YtinndpnilmmmjaaGreatDoorMAll
import Derived.Test.YtinndpnilmmmjaaGreatDoorMSel
import Derived.Deep.RegionWith
namespace Go.Proofs.YtinndpnilmmmjaaGreatDoor
open Go.RowKit

theorem primOk (a : Option Addr) (n cap : Nat) (ns : List NodeD) (w : World) (h : NRowW w a n ns) (z : Nat) (hz : z < n) (lo hi : Int) (r : Bool) (hr : primB (node ns z) lo hi = r) :
    Calls Tryz.prog 119 #[.agg #[.slice a n cap], .int .i64 (z : Nat), .int .i64 lo, .int .i64 hi] w fun e w' => e = .returned (.bool r) ∧ Below w.heap.size w w' := by
  rw [← hr]; exact isPrim_any a n cap ns w h z hz lo hi

set_option maxRecDepth 20000 in
set_option maxHeartbeats 8000000 in
theorem isSel_any (a : Option Addr) (n cap : Nat) (ns : List NodeD) (w : World) (h : NRowW w a n ns) (i : Nat) (hi : i < n) (hok : SelOk ns i) :
    Calls Tryz.prog 69 #[.agg #[.slice a n cap], .int .i64 (i : Nat)] w fun e w' => e = .returned (.bool (selB ns i)) ∧ Below w.heap.size w w' := by
  obtain ⟨r, hr⟩ : ∃ r, selB ns i = r := ⟨_, rfl⟩
  rw [hr]
  have hn1 := h.small
  have hni : (i : Int) < (n : Int) := by omega
  obtain ⟨Q, hQ⟩ : ∃ Q, Q = w.alloc (.cells #[.slice a n cap] 29) := ⟨_, rfl⟩
  have HQ := hide hQ
  have HBQ : Hid (Below w.heap.size w Q) := by rw [hQ]; exact (Below.refl _ _).alloc (Nat.le_refl _) _
  have hQlt : w.heap.size < Q.heap.size := by rw [hQ]; simp
  have HQC : Hid (Q.cell? ⟨w.heap.size, 0, none⟩ = some (.slice a n cap)) := by rw [hQ]; show (w.alloc _).cell? _ = _; simp
  have H := hide h
  have HOK := hide hok
  obtain ⟨b0, off0, ha0, hbl0, s10, n10, c10, s20, n20, c20, y0, _, _, _, _, _, _, _⟩ := h.get hi
  clear h hok hQ
  by_cases h3 : (node ns i).k = 3
  · rw [h3] at y0
    have HE : Hid (false = r) := by show _ = _; rw [← hr]; unfold selB; rw [h3]; rfl
    subst ha0
    clear hr h3
    go_enter Tryz.func69, Tryz.ntmps69
    go_wp2_with fail
    rw [← unhide HQ]
    go_ret
    exact ⟨ret_bool (unhide HE), unhide HBQ⟩
  have HR : Hid (selF ns (i + 1) i = r) := by show _ = _; rw [← hr]; unfold selB; rw [decide_eq_true h3]; rfl
  obtain ⟨x3, hx3⟩ : ∃ x, (node ns i).k = x := ⟨_, rfl⟩
  rw [hx3] at y0 h3
  have h3f := ne_false h3
  subst ha0
  clear hr h3 hx3
  go_enter Tryz.func69, Tryz.ntmps69
  go_wp2_with fail
  rw [← unhide HQ]
  clear y0 h3f hbl0
  go_loopw [1] (fun v wr => ∃ (j f : Nat), v = .int .i64 j ∧ j ≤ i ∧ j < f ∧ Hid (selF ns f j = r) ∧ Hid (Below Q.heap.size Q wr) ∧ Hid (SelOk ns j)) (fun v _ => (intOf v).toNat)
  case atStart => exact ⟨i, i + 1, rfl, Nat.le_refl _, by omega, HR, Below.refl _ _, HOK⟩
  case round =>
    obtain ⟨j, f, rfl, hj, hf, HX, HBL, HOJ⟩ := hrel
    clear HR HOK
    obtain ⟨f', rfl⟩ : ∃ f', f = f' + 1 := ⟨f - 1, by omega⟩
    have hbW := (unhide HBQ).trans ((unhide HBL).mono (by omega))
    have hNR := (unhide H).below (Nat.le_refl _) hbW
    have HBW := hide hbW
    obtain ⟨b, off, eab, hbl, s1, n1, c1, s2, n2, c2, e0, e1, e2, e3, e4, e5, r1, r2⟩ := hNR.get (k := j) (by omega)
    cases eab
    have HNR := hide hNR
    have HR2 := hide r2
    have hl2 := r2.len
    have hjn : (j : Int) < (n : Int) := by omega
    have ct : wr.cell? ⟨w.heap.size, 0, none⟩ = some (.slice (some ⟨b0, off0, none⟩) n cap) := ((unhide HBL).cell (p := ⟨w.heap.size, 0, none⟩) hQlt).trans (unhide HQC)
    have hws : w.heap.size < wr.heap.size := by have := (unhide HBL).size; omega
    have HBX : Hid (∀ o : Obj, Below Q.heap.size Q (wr.alloc o)) := fun o => (unhide HBL).alloc (unhide HBL).size _
    have HBXW : Hid (∀ o : Obj, Below w.heap.size w (wr.alloc o)) := fun o => (unhide HBW).alloc (unhide HBW).size _
    clear r1 r2 hNR hbW
    obtain ⟨xn, hxn⟩ : ∃ x, x = (node ns j).n := ⟨_, rfl⟩
    obtain ⟨xm, hxm⟩ : ∃ x, x = (node ns j).m := ⟨_, rfl⟩
    obtain ⟨xs, hxs⟩ : ∃ x, x = (node ns j).s := ⟨_, rfl⟩
    rw [← hxn] at e1
    rw [← hxm] at e2
    rw [← hxs] at e3
    clear hxn hxm hxs
    by_cases h3 : (node ns j).k = 3
    · rw [h3] at e0
      have HE : Hid (true = r) := by show _ = _; rw [← unhide HX, selF_name h3]
      clear HX h3
      go_wp2_with fail
      go_ret
      exact ⟨ret_bool (unhide HE), unhide HBW⟩
    have HN : Hid (nextS ns j = none → false = r) := fun hh => by rw [← unhide HX, selF_none h3 hh]
    have HS : Hid (∀ j', nextS ns j = some j' → selF ns f' j' = r) := fun j' hh => by rw [← unhide HX, selF_next h3 hh]
    clear HX
    by_cases h7 : (node ns j).k = 7
    · have hlen := (unhide HOJ).at.2.1 h7
      rw [h7] at e0
      obtain ⟨pv, plt, pok⟩ := (unhide HOJ).kid (q := 0) (by omega)
      obtain ⟨pb, po, pe, pl, pc⟩ := (unhide HR2).get (k := 0) (by omega)
      rw [pv] at pc
      rw [Nat.add_zero] at pc
      cases pe
      have HT := hide (unhide HS _ (next7 h7))
      obtain ⟨z, hz⟩ : ∃ z, kidN (node ns j) 0 = z := ⟨_, rfl⟩
      rw [hz] at pc plt HT pok
      have HPO := hide pok
      clear pok
      have hb0 : (0 : Int) < (n2 : Int) := by omega
      clear hz HS HN h3 h7 pv HNR HR2 hlen hl2
      go_wp2_with fail
      go_roundw
      case rel => exact ⟨z, f', rfl, by omega, by omega, HT, unhide HBX _, HPO⟩
      case measure => simp [intOf]; omega
    by_cases h9 : (node ns j).k = 9
    · have hlen := (unhide HOJ).at.2.2.1 h9
      rw [h9] at e0
      obtain ⟨pv, plt, pok⟩ := (unhide HOJ).kid (q := 0) (by omega)
      obtain ⟨pb, po, pe, pl, pc⟩ := (unhide HR2).get (k := 0) (by omega)
      rw [pv] at pc
      rw [Nat.add_zero] at pc
      cases pe
      obtain ⟨uv, ult, uok⟩ := (unhide HOJ).kid (q := 1) (by omega)
      obtain ⟨ub, uo, ue, ul, uc⟩ := (unhide HR2).get (k := 1) (by omega)
      rw [uv] at uc
      cases ue
      have HT : Hid (primB (node ns (kidN (node ns j) 0)) 20 23 = true → _) := fun hh => unhide HS _ (next9 h9 hh)
      have HF : Hid (primB (node ns (kidN (node ns j) 0)) 20 23 = false → false = r) := fun hh => unhide HN (next9n h9 hh)
      obtain ⟨z, hz⟩ : ∃ z, kidN (node ns j) 0 = z := ⟨_, rfl⟩
      rw [hz] at pc plt HT HF
      obtain ⟨z', hz'⟩ : ∃ z', kidN (node ns j) 1 = z' := ⟨_, rfl⟩
      rw [hz'] at uc ult HT uok
      have HUO := hide uok
      clear uok pok
      have hb0 : (0 : Int) < (n2 : Int) := by omega
      have hb1 : (1 : Int) < (n2 : Int) := by omega
      have hzn : z < n := by omega
      have HPC : Hid (∀ (v : World) (rr : Bool), Below wr.heap.size wr v → primB (node ns z) 20 23 = rr → Calls Tryz.prog 119 #[.agg #[.slice (some ⟨b0, off0, none⟩) n cap], .int .i64 (z : Nat), .int .i64 20, .int .i64 23] v fun e w' => e = .returned (.bool rr) ∧ Below v.heap.size v w') := fun v rr hv hrr => primOk _ n cap ns _ ((unhide HNR).below (Nat.le_refl _) hv) z hzn 20 23 rr hrr
      obtain ⟨ob, hob⟩ : ∃ x : Obj, x = .cells #[.int .i64 9, .int .i64 xn, .int .i64 xm, .string xs, .slice s1 n1 c1, .slice (some ⟨pb, po, none⟩) n2 c2] 47 := ⟨_, rfl⟩
      have HOB := hide hob
      have HP5 : Hid (∀ (v : World), Below (wr.heap.size + 1) (wr.alloc ob) v → Below Q.heap.size Q v ∧ Below w.heap.size w v ∧ v.cell? ⟨wr.heap.size, 0, none⟩ = some (.int .i64 9) ∧ v.cell? ⟨wr.heap.size, 5, none⟩ = some (.slice (some ⟨pb, po, none⟩) n2 c2) ∧ v.cell? ⟨pb, po + 1, none⟩ = some (.int .i64 (z' : Nat))) := fun v hv => ⟨(unhide HBX ob).trans (hv.mono (by have := (unhide HBL).size; omega)), (unhide HBXW ob).trans (hv.mono (by have := (unhide HBW).size; omega)), (hv.cell (p := ⟨wr.heap.size, 0, none⟩) (by show wr.heap.size < _; omega)).trans (by rw [hob]; show (wr.alloc _).cell? _ = _; simp), (hv.cell (p := ⟨wr.heap.size, 5, none⟩) (by show wr.heap.size < _; omega)).trans (by rw [hob]; show (wr.alloc _).cell? _ = _; simp), (hv.cell (p := ⟨pb, po + 1, none⟩) (by show pb < _; omega)).trans ((((Below.refl _ _).alloc (Nat.le_refl _) _).cell (p := ⟨pb, po + 1, none⟩) ul).trans uc)⟩
      clear hz hz' HS HN h3 h7 pv uv hlen hl2 h9 HR2 hob
      cases hq : primB (node ns z) 20 23 with
      | false =>
        have HPD := hide (fun v hv => unhide HPC v false hv hq)
        have HE : Hid (false = r) := unhide HF hq
        clear hq HT HF HPC HNR
        go_wp2_with fail
        go_region_with (go_at_call 119; refine (unhide HPD _ (by repeat (first | exact Below.refl _ _ | refine Below.drew ?_ | refine Below.drewN ?_ _ | refine Below.alloc ?_ (Nat.le_refl _) _))).mono ?_; rintro e w7 ⟨rfl, hb7⟩; obtain ⟨hq1, hq2, f0, f5, fu⟩ := unhide HP5 w7 (Below.trans (by rw [unhide HOB]; repeat (first | exact Below.refl _ _ | refine Below.drew ?_ | refine Below.drewN ?_ _)) (hb7.mono (by simp))); have HBQ7 := hide hq1; have HBW7 := hide hq2; clear hb7 hq1 hq2)
        all_goals go_wp2_with fail
        all_goals go_quiet (fail)
        all_goals go_wp2_with fail
        all_goals go_ret
        all_goals exact ⟨ret_bool (unhide HE), (by repeat (first | exact unhide HBW7 | refine Below.drewN ?_ _))⟩
      | true =>
        have HPD := hide (fun v hv => unhide HPC v true hv hq)
        have HTT := hide (unhide HT hq)
        clear hq HT HF HPC HNR
        go_wp2_with fail
        go_region_with (go_at_call 119; refine (unhide HPD _ (by repeat (first | exact Below.refl _ _ | refine Below.drew ?_ | refine Below.drewN ?_ _ | refine Below.alloc ?_ (Nat.le_refl _) _))).mono ?_; rintro e w7 ⟨rfl, hb7⟩; obtain ⟨hq1, hq2, f0, f5, fu⟩ := unhide HP5 w7 (Below.trans (by rw [unhide HOB]; repeat (first | exact Below.refl _ _ | refine Below.drew ?_ | refine Below.drewN ?_ _)) (hb7.mono (by simp))); have HBQ7 := hide hq1; have HBW7 := hide hq2; clear hb7 hq1 hq2)
        all_goals go_wp2_with fail
        all_goals (go_roundw; (case rel => exact ⟨z', f', rfl, by omega, by omega, HTT, HBQ7, HUO⟩); (case measure => simp [intOf]; omega))
    by_cases h10 : (node ns j).k = 10
    · have hlen := (unhide HOJ).at.2.2.2 h10
      rw [h10] at e0
      obtain ⟨pv, plt, pok⟩ := (unhide HOJ).kid (q := 1) (by omega)
      obtain ⟨pb, po, pe, pl, pc⟩ := (unhide HR2).get (k := 1) (by omega)
      rw [pv] at pc
      cases pe
      obtain ⟨uv, ult, uok⟩ := (unhide HOJ).kid (q := 2) (by omega)
      obtain ⟨ub, uo, ue, ul, uc⟩ := (unhide HR2).get (k := 2) (by omega)
      rw [uv] at uc
      cases ue
      have HT : Hid (primB (node ns (kidN (node ns j) 1)) 21 25 = true → _) := fun hh => unhide HS _ (next10 h10 hh)
      have HF : Hid (primB (node ns (kidN (node ns j) 1)) 21 25 = false → false = r) := fun hh => unhide HN (next10n h10 hh)
      obtain ⟨z, hz⟩ : ∃ z, kidN (node ns j) 1 = z := ⟨_, rfl⟩
      rw [hz] at pc plt HT HF
      obtain ⟨z', hz'⟩ : ∃ z', kidN (node ns j) 2 = z' := ⟨_, rfl⟩
      rw [hz'] at uc ult HT uok
      have HUO := hide uok
      clear uok pok
      have hb0 : (1 : Int) < (n2 : Int) := by omega
      have hb1 : (2 : Int) < (n2 : Int) := by omega
      have hzn : z < n := by omega
      have HPC : Hid (∀ (v : World) (rr : Bool), Below wr.heap.size wr v → primB (node ns z) 21 25 = rr → Calls Tryz.prog 119 #[.agg #[.slice (some ⟨b0, off0, none⟩) n cap], .int .i64 (z : Nat), .int .i64 21, .int .i64 25] v fun e w' => e = .returned (.bool rr) ∧ Below v.heap.size v w') := fun v rr hv hrr => primOk _ n cap ns _ ((unhide HNR).below (Nat.le_refl _) hv) z hzn 21 25 rr hrr
      obtain ⟨ob, hob⟩ : ∃ x : Obj, x = .cells #[.int .i64 10, .int .i64 xn, .int .i64 xm, .string xs, .slice s1 n1 c1, .slice (some ⟨pb, po, none⟩) n2 c2] 47 := ⟨_, rfl⟩
      have HOB := hide hob
      have HP5 : Hid (∀ (v : World), Below (wr.heap.size + 1) (wr.alloc ob) v → Below Q.heap.size Q v ∧ Below w.heap.size w v ∧ v.cell? ⟨wr.heap.size, 0, none⟩ = some (.int .i64 10) ∧ v.cell? ⟨wr.heap.size, 5, none⟩ = some (.slice (some ⟨pb, po, none⟩) n2 c2) ∧ v.cell? ⟨pb, po + 2, none⟩ = some (.int .i64 (z' : Nat))) := fun v hv => ⟨(unhide HBX ob).trans (hv.mono (by have := (unhide HBL).size; omega)), (unhide HBXW ob).trans (hv.mono (by have := (unhide HBW).size; omega)), (hv.cell (p := ⟨wr.heap.size, 0, none⟩) (by show wr.heap.size < _; omega)).trans (by rw [hob]; show (wr.alloc _).cell? _ = _; simp), (hv.cell (p := ⟨wr.heap.size, 5, none⟩) (by show wr.heap.size < _; omega)).trans (by rw [hob]; show (wr.alloc _).cell? _ = _; simp), (hv.cell (p := ⟨pb, po + 2, none⟩) (by show pb < _; omega)).trans ((((Below.refl _ _).alloc (Nat.le_refl _) _).cell (p := ⟨pb, po + 2, none⟩) ul).trans uc)⟩
      clear hz hz' HS HN h3 h7 pv uv hlen hl2 h10 HR2 hob
      cases hq : primB (node ns z) 21 25 with
      | false =>
        have HPD := hide (fun v hv => unhide HPC v false hv hq)
        have HE : Hid (false = r) := unhide HF hq
        clear hq HT HF HPC HNR
        go_wp2_with fail
        go_quiet (fail)
        go_wp2_with fail
        go_region_with (go_at_call 119; refine (unhide HPD _ (by repeat (first | exact Below.refl _ _ | refine Below.drew ?_ | refine Below.drewN ?_ _ | refine Below.alloc ?_ (Nat.le_refl _) _))).mono ?_; rintro e w7 ⟨rfl, hb7⟩; obtain ⟨hq1, hq2, f0, f5, fu⟩ := unhide HP5 w7 (Below.trans (by rw [unhide HOB]; repeat (first | exact Below.refl _ _ | refine Below.drew ?_ | refine Below.drewN ?_ _)) (hb7.mono (by simp))); have HBQ7 := hide hq1; have HBW7 := hide hq2; clear hb7 hq1 hq2)
        all_goals go_wp2_with fail
        all_goals go_ret
        all_goals exact ⟨ret_bool (unhide HE), (by repeat (first | exact unhide HBW7 | refine Below.drewN ?_ _))⟩
      | true =>
        have HPD := hide (fun v hv => unhide HPC v true hv hq)
        have HTT := hide (unhide HT hq)
        clear hq HT HF HPC HNR
        go_wp2_with fail
        go_quiet (fail)
        go_wp2_with fail
        go_region_with (go_at_call 119; refine (unhide HPD _ (by repeat (first | exact Below.refl _ _ | refine Below.drew ?_ | refine Below.drewN ?_ _ | refine Below.alloc ?_ (Nat.le_refl _) _))).mono ?_; rintro e w7 ⟨rfl, hb7⟩; obtain ⟨hq1, hq2, f0, f5, fu⟩ := unhide HP5 w7 (Below.trans (by rw [unhide HOB]; repeat (first | exact Below.refl _ _ | refine Below.drew ?_ | refine Below.drewN ?_ _)) (hb7.mono (by simp))); have HBQ7 := hide hq1; have HBW7 := hide hq2; clear hb7 hq1 hq2)
        all_goals go_wp2_with fail
        all_goals (go_roundw; (case rel => exact ⟨z', f', rfl, by omega, by omega, HTT, HBQ7, HUO⟩); (case measure => simp [intOf]; omega))
    obtain ⟨xk, hxk⟩ : ∃ x, (node ns j).k = x := ⟨_, rfl⟩
    have HE : Hid (false = r) := unhide HN (nextn h7 h9 h10)
    rw [hxk] at e0 h3 h7 h9 h10
    have q3 : (xk != 3) = true := by simpa using h3
    have q7 := ne_false h7
    have q9 := ne_false h9
    have q10 := ne_false h10
    clear hxk HN HS h3 h7 h9 h10 HNR HR2
    go_wp2_with fail
    go_quiet (fail)
    go_wp2_with fail
    go_quiet (fail)
    go_wp2_with fail
    go_ret
    exact ⟨ret_bool (unhide HE), (by repeat (first | exact unhide HBXW _ | refine Below.drewN ?_ _))⟩

end Go.Proofs.YtinndpnilmmmjaaGreatDoor
