import Derived.Test.YtinndpnilmmmjaaGreatDoorMTree
import Derived.Test.YtinndpnilmmmjaaGreatDoorMBase
import Derived.Test.YtinndpnilmmmjaaGreatDoorNRowsW
namespace Go.Proofs.YtinndpnilmmmjaaGreatDoor
open Go.RowKit

theorem kind_cases (k : Int) : k < 1 ∨ 25 < k ∨ k = 1 ∨ k = 2 ∨ k = 3 ∨ k = 4 ∨ k = 5 ∨ k = 6 ∨ k = 7 ∨ k = 8 ∨ k = 9 ∨ k = 10 ∨ k = 11 ∨ k = 12 ∨ k = 13 ∨ k = 14 ∨ k = 15 ∨ k = 16 ∨ k = 17 ∨ k = 18 ∨ k = 19 ∨ k = 20 ∨ k = 21 ∨ k = 22 ∨ k = 23 ∨ k = 24 ∨ k = 25 := by omega

theorem ne_false {a b : Int} (h : a ≠ b) : (a == b) = false := by simpa using h

set_option maxHeartbeats 2000000 in
theorem l2Sort_any (k : Int) (w : World) : Calls Tryz.prog 24 #[.int .i64 k] w fun e w' => e = .returned (.int .i64 (sortK k)) ∧ w' = w := by
  rcases kind_cases k with h | h | h | h | h | h | h | h | h | h | h | h | h | h | h | h | h | h | h | h | h | h | h | h | h | h | h
  · have hs : sortK k = 0 := by unfold sortK; rw [if_neg (by omega), if_neg (by omega), if_neg (by omega), if_neg (by omega), if_neg (by omega), if_neg (by omega)]
    rw [hs]
    have a1 : ¬ (1 : Int) ≤ k := by omega
    have a2 : ¬ (11 : Int) ≤ k := by omega
    have a3 : ¬ (19 : Int) ≤ k := by omega
    have e8 := ne_false (show k ≠ 8 by omega)
    have e9 := ne_false (show k ≠ 9 by omega)
    have e10 := ne_false (show k ≠ 10 by omega)
    have e24 := ne_false (show k ≠ 24 by omega)
    have e25 := ne_false (show k ≠ 25 by omega)
    clear h hs
    go_enter Tryz.func24, Tryz.ntmps24
    go_wp2
    go_ret
    exact ⟨rfl, rfl⟩
  · have hs : sortK k = 0 := by unfold sortK; rw [if_neg (by omega), if_neg (by omega), if_neg (by omega), if_neg (by omega), if_neg (by omega), if_neg (by omega)]
    rw [hs]
    have a1 : (1 : Int) ≤ k := by omega
    have a2 : (11 : Int) ≤ k := by omega
    have a3 : (19 : Int) ≤ k := by omega
    have b1 : ¬ k ≤ 7 := by omega
    have b2 : ¬ k ≤ 18 := by omega
    have b3 : ¬ k ≤ 23 := by omega
    have e8 := ne_false (show k ≠ 8 by omega)
    have e9 := ne_false (show k ≠ 9 by omega)
    have e10 := ne_false (show k ≠ 10 by omega)
    have e24 := ne_false (show k ≠ 24 by omega)
    have e25 := ne_false (show k ≠ 25 by omega)
    clear h hs
    go_enter Tryz.func24, Tryz.ntmps24
    go_wp2
    go_ret
    exact ⟨rfl, rfl⟩
  all_goals
    subst h
    go_enter Tryz.func24, Tryz.ntmps24
    go_wp2
    go_ret
    exact ⟨rfl, rfl⟩

end Go.Proofs.YtinndpnilmmmjaaGreatDoor
namespace Go.Proofs.YtinndpnilmmmjaaGreatDoor
open Go.RowKit

/-- A node's kids lie ahead of it, as many as a selection asks for. -/
def SelAt (ns : List NodeD) (j : Nat) : Prop := (∀ q, q < (node ns j).kids.length → 0 ≤ (node ns j).kids.getD q 0 ∧ (node ns j).kids.getD q 0 < j) ∧ ((node ns j).k = 7 → 1 ≤ (node ns j).kids.length) ∧ ((node ns j).k = 9 → 2 ≤ (node ns j).kids.length) ∧ ((node ns j).k = 10 → 3 ≤ (node ns j).kids.length)

/-- All that is under a node is such that a selection can be followed. -/
def SelOk (ns : List NodeD) (i : Nat) : Prop := ∃ P : Nat → Prop, P i ∧ ∀ j, P j → SelAt ns j ∧ ∀ q, q < (node ns j).kids.length → P (kidN (node ns j) q)

theorem SelOk.of {ns : List NodeD} {i : Nat} (h : ∀ j, j ≤ i → SelAt ns j) : SelOk ns i := ⟨(· ≤ i), Nat.le_refl _, fun j hj => ⟨h j hj, fun q hq => by have := (h j hj).1 q hq; have hj' : j ≤ i := hj; show kidN (node ns j) q ≤ i; unfold kidN; omega⟩⟩
theorem SelOk.at {ns : List NodeD} {j : Nat} (h : SelOk ns j) : SelAt ns j := by obtain ⟨P, h1, h2⟩ := h; exact (h2 j h1).1

/-- A kid's place. -/
theorem SelOk.kid {ns : List NodeD} {j q : Nat} (h : SelOk ns j) (hq : q < (node ns j).kids.length) : (node ns j).kids.getD q 0 = ((kidN (node ns j) q : Nat) : Int) ∧ kidN (node ns j) q < j ∧ SelOk ns (kidN (node ns j) q) := by
  have := h.at.1 q hq
  refine ⟨by unfold kidN; omega, by unfold kidN; omega, ?_⟩
  obtain ⟨P, h1, h2⟩ := h
  exact ⟨P, (h2 j h1).2 q hq, h2⟩

theorem selF_name {ns : List NodeD} {f i : Nat} (h : (node ns i).k = 3) : selF ns (f + 1) i = true := by rw [selF, if_pos h]
theorem selF_next {ns : List NodeD} {f i j : Nat} (h : (node ns i).k ≠ 3) (hn : nextS ns i = some j) : selF ns (f + 1) i = selF ns f j := by rw [selF, if_neg h, hn]
theorem selF_none {ns : List NodeD} {f i : Nat} (h : (node ns i).k ≠ 3) (hn : nextS ns i = none) : selF ns (f + 1) i = false := by rw [selF, if_neg h, hn]

theorem next7 {ns : List NodeD} {i : Nat} (h : (node ns i).k = 7) : nextS ns i = some (kidN (node ns i) 0) := by unfold nextS; rw [if_pos h]
theorem next9 {ns : List NodeD} {i : Nat} (h : (node ns i).k = 9) (hp : primB (node ns (kidN (node ns i) 0)) 20 23 = true) : nextS ns i = some (kidN (node ns i) 1) := by unfold nextS; rw [if_neg (by omega), if_pos ⟨h, hp⟩]
theorem next9n {ns : List NodeD} {i : Nat} (h : (node ns i).k = 9) (hp : primB (node ns (kidN (node ns i) 0)) 20 23 = false) : nextS ns i = none := by unfold nextS; rw [if_neg (by omega), if_neg (by rw [hp]; simp), if_neg (by omega)]
theorem next10 {ns : List NodeD} {i : Nat} (h : (node ns i).k = 10) (hp : primB (node ns (kidN (node ns i) 1)) 21 25 = true) : nextS ns i = some (kidN (node ns i) 2) := by unfold nextS; rw [if_neg (by omega), if_neg (by omega), if_pos ⟨h, hp⟩]
theorem next10n {ns : List NodeD} {i : Nat} (h : (node ns i).k = 10) (hp : primB (node ns (kidN (node ns i) 1)) 21 25 = false) : nextS ns i = none := by unfold nextS; rw [if_neg (by omega), if_neg (by omega), if_neg (by rw [hp]; simp)]
theorem nextn {ns : List NodeD} {i : Nat} (h7 : (node ns i).k ≠ 7) (h9 : (node ns i).k ≠ 9) (h10 : (node ns i).k ≠ 10) : nextS ns i = none := by unfold nextS; rw [if_neg h7, if_neg (fun h => h9 h.1), if_neg (fun h => h10 h.1)]

set_option maxRecDepth 20000 in
set_option maxHeartbeats 8000000 in
theorem l2Selects_any (a : Option Addr) (n cap : Nat) (ns : List NodeD) (w : World) (h : NRowW w a n ns) (i : Nat) (hi : i < n) (hok : SelOk ns i) :
    Calls Tryz.prog 27 #[.slice a n cap, .int .i64 (i : Nat)] w fun e w' => e = .returned (.bool (selB ns i)) ∧ Below w.heap.size w w' := by
  obtain ⟨r, hr⟩ : ∃ r, selB ns i = r := ⟨_, rfl⟩
  rw [hr]
  have HR : Hid (((false || decide ((node ns i).k ≠ 3)) && selF ns (i + 1) i) = r) := by show _ = r; rw [Bool.false_or]; exact hr
  have hn1 := h.small
  have H := hide h
  have HOK := hide hok
  clear hr h hok
  go_enter Tryz.func27, Tryz.ntmps27
  go_wp2_with fail
  go_loopw [1, 5] (fun v s wr => ∃ (j f : Nat) (bs : Bool), v = .int .i64 j ∧ s = .bool bs ∧ j ≤ i ∧ j < f ∧ Hid (((bs || decide ((node ns j).k ≠ 3)) && selF ns f j) = r) ∧ Hid (Below w.heap.size w wr) ∧ Hid (SelOk ns j)) (fun v _ _ => (intOf v).toNat)
  case atStart => exact ⟨i, i + 1, false, rfl, rfl, Nat.le_refl _, by omega, HR, Below.refl _ _, HOK⟩
  case round =>
    obtain ⟨j, f, bs, rfl, rfl, hj, hf, HX, HB, HOJ⟩ := hrel
    clear HR HOK
    obtain ⟨f', rfl⟩ : ∃ f', f = f' + 1 := ⟨f - 1, by omega⟩
    have hNR := (unhide H).below (Nat.le_refl _) (unhide HB)
    obtain ⟨b, off, rfl, hbl, s1, n1, c1, s2, n2, c2, e0, e1, e2, e3, e4, e5, r1, r2⟩ := hNR.get (k := j) (by omega)
    have HNR := hide hNR
    have HR2 := hide r2
    have hl2 := r2.len
    have HBX : Hid (∀ o : Obj, Below w.heap.size w (wr.alloc o)) := fun o => (unhide HB).alloc (unhide HB).size _
    clear r1 r2 hNR
    obtain ⟨xn, hxn⟩ : ∃ x, x = (node ns j).n := ⟨_, rfl⟩
    obtain ⟨xm, hxm⟩ : ∃ x, x = (node ns j).m := ⟨_, rfl⟩
    obtain ⟨xs, hxs⟩ : ∃ x, x = (node ns j).s := ⟨_, rfl⟩
    rw [← hxn] at e1
    rw [← hxm] at e2
    rw [← hxs] at e3
    clear hxn hxm hxs
    by_cases h3 : (node ns j).k = 3
    · rw [h3] at e0
      have HE : Hid (bs = r) := by show _ = _; rw [← unhide HX, selF_name h3, h3]; simp
      clear HX h3
      go_wp2_with fail
      go_ret
      exact ⟨ret_bool (unhide HE), unhide HBX _⟩
    have HN : Hid (nextS ns j = none → false = r) := fun hh => by rw [← unhide HX, selF_none h3 hh, Bool.and_false]
    have HS : Hid (∀ j', nextS ns j = some j' → ((true || decide ((node ns j').k ≠ 3)) && selF ns f' j') = r) := fun j' hh => by rw [← unhide HX, selF_next h3 hh, decide_eq_true h3]; simp
    clear HX
    by_cases h7 : (node ns j).k = 7
    · have hlen := (unhide HOJ).at.2.1 h7
      rw [h7] at e0
      obtain ⟨pv, plt, pok⟩ := (unhide HOJ).kid (q := 0) (by omega)
      obtain ⟨pb, po, pe, pl, pc⟩ := (unhide HR2).get (k := 0) (by omega)
      rw [pv] at pc
      rw [Nat.add_zero] at pc
      cases pe
      have HT := hide (unhide HS _ (next7 h7))
      obtain ⟨z, hz⟩ : ∃ z, kidN (node ns j) 0 = z := ⟨_, rfl⟩
      rw [hz] at pc plt HT pok
      have HPO := hide pok
      clear pok
      have hb0 : (0 : Int) < (n2 : Int) := by omega
      clear hz HS HN h3 h7 pv HNR HR2 hlen hl2
      go_wp2_with fail
      go_roundw
      case rel => exact ⟨z, f', true, rfl, rfl, by omega, by omega, HT, unhide HBX _, HPO⟩
      case measure => simp [intOf]; omega
    by_cases h9 : (node ns j).k = 9
    · have hlen := (unhide HOJ).at.2.2.1 h9
      rw [h9] at e0
      obtain ⟨pv, plt, pok⟩ := (unhide HOJ).kid (q := 0) (by omega)
      obtain ⟨pb, po, pe, pl, pc⟩ := (unhide HR2).get (k := 0) (by omega)
      rw [pv] at pc
      rw [Nat.add_zero] at pc
      cases pe
      obtain ⟨uv, ult, uok⟩ := (unhide HOJ).kid (q := 1) (by omega)
      obtain ⟨ub, uo, ue, ul, uc⟩ := (unhide HR2).get (k := 1) (by omega)
      rw [uv] at uc
      cases ue
      obtain ⟨b3, off3, e3', hbl3, _, _, _, _, _, _, y0, y1, _, _, _, _, _, _⟩ := (unhide HNR).get (k := kidN (node ns j) 0) (by omega)
      cases e3'
      have HP : Hid (primB (node ns (kidN (node ns j) 0)) 20 23 = decide ((node ns (kidN (node ns j) 0)).k = 11 ∧ 20 ≤ (node ns (kidN (node ns j) 0)).n ∧ (node ns (kidN (node ns j) 0)).n ≤ 23)) := rfl
      have HT : Hid (primB (node ns (kidN (node ns j) 0)) 20 23 = true → _) := fun hh => unhide HS _ (next9 h9 hh)
      have HF : Hid (primB (node ns (kidN (node ns j) 0)) 20 23 = false → false = r) := fun hh => unhide HN (next9n h9 hh)
      obtain ⟨z, hz⟩ : ∃ z, kidN (node ns j) 0 = z := ⟨_, rfl⟩
      rw [hz] at pc plt HP HT HF y0 y1
      obtain ⟨z', hz'⟩ : ∃ z', kidN (node ns j) 1 = z' := ⟨_, rfl⟩
      rw [hz'] at uc ult HT uok
      have HUO := hide uok
      clear uok pok
      obtain ⟨yk, hyk⟩ : ∃ x, (node ns z).k = x := ⟨_, rfl⟩
      obtain ⟨yn, hyn⟩ : ∃ x, (node ns z).n = x := ⟨_, rfl⟩
      rw [hyk] at y0 HP
      rw [hyn] at y1 HP
      have hb0 : (0 : Int) < (n2 : Int) := by omega
      have hb1 : (1 : Int) < (n2 : Int) := by omega
      have hzn : (z : Int) < (n : Int) := by omega
      clear hz hz' hyk hyn HS HN h3 h7 pv uv HNR HR2 hlen hl2 h9
      by_cases g0 : yk = 11
      case neg =>
        have hq := ne_false g0
        have HE : Hid (false = r) := unhide HF (by rw [unhide HP, decide_eq_false (by omega)])
        clear HP HT HF g0
        go_wp2_with fail
        go_ret
        exact ⟨ret_bool (unhide HE), unhide HBX _⟩
      subst g0
      by_cases g1 : yn < 20
      · have hq : ¬ (20 : Int) ≤ yn := by omega
        have HE : Hid (false = r) := unhide HF (by rw [unhide HP, decide_eq_false (by omega)])
        clear HP HT HF g1
        go_wp2_with fail
        go_ret
        exact ⟨ret_bool (unhide HE), unhide HBX _⟩
      have hq1 : (20 : Int) ≤ yn := by omega
      by_cases g2 : 23 < yn
      · have hq : ¬ yn ≤ 23 := by omega
        have HE : Hid (false = r) := unhide HF (by rw [unhide HP, decide_eq_false (by omega)])
        clear HP HT HF g1 g2
        go_wp2_with fail
        go_ret
        exact ⟨ret_bool (unhide HE), unhide HBX _⟩
      have hq2 : yn ≤ 23 := by omega
      have HTT := hide (unhide HT (by rw [unhide HP, decide_eq_true (by omega)]))
      clear HP HT HF g1 g2
      go_wp2_with fail
      go_roundw
      case rel => exact ⟨z', f', true, rfl, rfl, by omega, by omega, HTT, unhide HBX _, HUO⟩
      case measure => simp [intOf]; omega
    by_cases h10 : (node ns j).k = 10
    · have hlen := (unhide HOJ).at.2.2.2 h10
      rw [h10] at e0
      obtain ⟨pv, plt, pok⟩ := (unhide HOJ).kid (q := 1) (by omega)
      obtain ⟨pb, po, pe, pl, pc⟩ := (unhide HR2).get (k := 1) (by omega)
      rw [pv] at pc
      cases pe
      obtain ⟨uv, ult, uok⟩ := (unhide HOJ).kid (q := 2) (by omega)
      obtain ⟨ub, uo, ue, ul, uc⟩ := (unhide HR2).get (k := 2) (by omega)
      rw [uv] at uc
      cases ue
      obtain ⟨b3, off3, e3', hbl3, _, _, _, _, _, _, y0, y1, _, _, _, _, _, _⟩ := (unhide HNR).get (k := kidN (node ns j) 1) (by omega)
      cases e3'
      have HP : Hid (primB (node ns (kidN (node ns j) 1)) 21 25 = decide ((node ns (kidN (node ns j) 1)).k = 11 ∧ 21 ≤ (node ns (kidN (node ns j) 1)).n ∧ (node ns (kidN (node ns j) 1)).n ≤ 25)) := rfl
      have HT : Hid (primB (node ns (kidN (node ns j) 1)) 21 25 = true → _) := fun hh => unhide HS _ (next10 h10 hh)
      have HF : Hid (primB (node ns (kidN (node ns j) 1)) 21 25 = false → false = r) := fun hh => unhide HN (next10n h10 hh)
      obtain ⟨z, hz⟩ : ∃ z, kidN (node ns j) 1 = z := ⟨_, rfl⟩
      rw [hz] at pc plt HP HT HF y0 y1
      obtain ⟨z', hz'⟩ : ∃ z', kidN (node ns j) 2 = z' := ⟨_, rfl⟩
      rw [hz'] at uc ult HT uok
      have HUO := hide uok
      clear uok pok
      obtain ⟨yk, hyk⟩ : ∃ x, (node ns z).k = x := ⟨_, rfl⟩
      obtain ⟨yn, hyn⟩ : ∃ x, (node ns z).n = x := ⟨_, rfl⟩
      rw [hyk] at y0 HP
      rw [hyn] at y1 HP
      have hb0 : (1 : Int) < (n2 : Int) := by omega
      have hb1 : (2 : Int) < (n2 : Int) := by omega
      have hzn : (z : Int) < (n : Int) := by omega
      clear hz hz' hyk hyn HS HN h3 h7 pv uv HNR HR2 hlen hl2 h10
      by_cases g0 : yk = 11
      case neg =>
        have hq := ne_false g0
        have HE : Hid (false = r) := unhide HF (by rw [unhide HP, decide_eq_false (by omega)])
        clear HP HT HF g0
        go_wp2_with fail
        go_ret
        exact ⟨ret_bool (unhide HE), unhide HBX _⟩
      subst g0
      by_cases g1 : yn < 21
      · have hq : ¬ (21 : Int) ≤ yn := by omega
        have HE : Hid (false = r) := unhide HF (by rw [unhide HP, decide_eq_false (by omega)])
        clear HP HT HF g1
        go_wp2_with fail
        go_ret
        exact ⟨ret_bool (unhide HE), unhide HBX _⟩
      have hq1 : (21 : Int) ≤ yn := by omega
      by_cases g2 : 25 < yn
      · have hq : ¬ yn ≤ 25 := by omega
        have HE : Hid (false = r) := unhide HF (by rw [unhide HP, decide_eq_false (by omega)])
        clear HP HT HF g1 g2
        go_wp2_with fail
        go_ret
        exact ⟨ret_bool (unhide HE), unhide HBX _⟩
      have hq2 : yn ≤ 25 := by omega
      have HTT := hide (unhide HT (by rw [unhide HP, decide_eq_true (by omega)]))
      clear HP HT HF g1 g2
      go_wp2_with fail
      go_roundw
      case rel => exact ⟨z', f', true, rfl, rfl, by omega, by omega, HTT, unhide HBX _, HUO⟩
      case measure => simp [intOf]; omega
    obtain ⟨xk, hxk⟩ : ∃ x, (node ns j).k = x := ⟨_, rfl⟩
    have HE : Hid (false = r) := unhide HN (nextn h7 h9 h10)
    rw [hxk] at e0 h3 h7 h9 h10
    have q3 := ne_false h3
    have q7 := ne_false h7
    have q9 := ne_false h9
    have q10 := ne_false h10
    clear hxk HN HS h3 h7 h9 h10 HNR HR2
    go_wp2_with fail
    go_ret
    exact ⟨ret_bool (unhide HE), unhide HBX _⟩

end Go.Proofs.YtinndpnilmmmjaaGreatDoor
