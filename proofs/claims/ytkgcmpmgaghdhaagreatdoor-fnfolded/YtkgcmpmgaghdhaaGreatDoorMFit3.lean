import Derived.Test.YtkgcmpmgaghdhaaGreatDoorMFit2
import Derived.Test.YtkgcmpmgaghdhaaGreatDoorMFit0
import Derived.BigQuiet
import Derived.Deep.RegionHeld
import Derived.Deep.DeepCutAuto
import Derived.Lib.SliceRun
import Derived.Test.YtkgcmpmgaghdhaaGreatDoorMFit1
namespace Go.Proofs.YtkgcmpmgaghdhaaGreatDoor
open Go.RowKit Go.Shelf

/-- The numbers of a strip. -/
def stripOf (dt : List Int) (start step cnt : Nat) : List Int := (List.range cnt).map fun i => dt.getD (start + i * step) 0

theorem strip_len (dt : List Int) (s t n : Nat) : (stripOf dt s t n).length = n := by simp [stripOf]
theorem strip_get (dt : List Int) (s t n i : Nat) (h : i < n) : (stripOf dt s t n).getD i 0 = dt.getD (s + i * t) 0 := by simp [stripOf, h]

theorem lim_codeIn (r : Int × Bool) : codeIn (limited r).2 := by
  unfold limited
  split
  · exact .inl rfl
  · exact .inr (.inr rfl)

theorem two_codeIn (op a b : Int) : codeIn (twoOf op a b).2 := by
  unfold twoOf
  repeat' split
  all_goals first | exact lim_codeIn _ | exact .inl rfl | exact .inr (.inl rfl)

theorem foldR_codeIn (op : Int) (xs : List Int) : codeIn (foldR op xs).2 := by
  induction xs with
  | nil => exact .inl rfl
  | cons x r ih =>
    by_cases h : r = []
    · subst h; exact .inl rfl
    · rw [foldR_cons h]
      split
      · exact ih
      · exact two_codeIn _ _ _

theorem dropL_cons {xs : List Int} {i : Nat} (h : i < xs.length) : xs.drop i = xs.getD i 0 :: xs.drop (i + 1) := by
  rw [List.drop_eq_getElem_cons h]; simp [h]

theorem fold_last {op : Int} {xs : List Int} {n : Nat} (h : xs.length = n + 1) : foldR op (xs.drop n) = (xs.getD n 0, 0) := by
  rw [dropL_cons (by omega), List.drop_of_length_le (by omega)]; rfl

theorem fold_step {op : Int} {xs : List Int} {i : Nat} {r : Int} (h : i + 1 < xs.length) (hr : foldR op (xs.drop (i + 1)) = (r, 0)) : foldR op (xs.drop i) = twoOf op (xs.getD i 0) r := by
  rw [dropL_cons (by omega), foldR_cons (by intro e; have := congrArg List.length e; simp at this; omega), hr]; rfl

theorem fold_stop {op : Int} {xs : List Int} {i : Nat} {r c : Int} (h : i + 1 < xs.length) (hr : foldR op (xs.drop (i + 1)) = (r, 0)) (hc : (twoOf op (xs.getD i 0) r).2 = c) (h0 : c ≠ 0) : foldR op xs = (0, c) := by
  have e := fold_step (op := op) h hr
  have e2 : foldR op (xs.drop i) = (0, c) := by
    rw [e]; exact Prod.ext (two_code (by rw [hc]; exact h0)) hc
  have := foldR_code (xs.take i) (by intro e; have := congrArg List.length e; simp at this; omega) e2 h0
  rwa [List.take_append_drop] at this

set_option maxRecDepth 20000 in
set_option maxHeartbeats 4000000 in
theorem fold_any (op : Int) (ga gb a2 : Addr) (v : Value) (n2 c2 s t cnt C : Nat) (dt : List Int) (w : World) (hC : C = cnt + 1) (hcs : C ≤ 1000000) (hv : OpIs ga gb (twoOf op) v w) (h2 : Row w (some a2) n2 dt) (hk : ∀ k, k < C → s + k * t < n2) (hb : ∀ k, k < n2 → -1000000000000000 ≤ dt.getD k 0 ∧ dt.getD k 0 ≤ 1000000000000000) :
    Calls Tryz.prog 140 #[.agg #[.slice (some a2) n2 c2, .int .i64 s, .int .i64 t, .int .i64 (C : Nat)], v] w fun e w' => e = .returned (.tuple #[.int .i64 (foldR op (stripOf dt s t C)).1, errV ga gb (foldR op (stripOf dt s t C)).2]) ∧ Below w.heap.size w w' := by
  obtain ⟨g, lb, rfl, eg, hcall⟩ := hv
  have hsm := h2.small
  have HX : Hid (∀ (k : Nat) wx, k < C → Below w.heap.size w wx → Calls Tryz.prog 121 #[.agg #[.slice (some a2) n2 c2, .int .i64 s, .int .i64 t, .int .i64 (C : Nat)], .int .i64 (k : Nat)] wx fun e w' => e = .returned (.int .i64 ((stripOf dt s t C).getD k 0)) ∧ Below wx.heap.size wx w') := fun k wx hkk hwx => by
    rw [strip_get _ _ _ _ _ hkk]
    exact at_any _ n2 c2 s t C k dt wx (h2.below (Nat.le_refl _) hwx) (hk k hkk)
  have HXB : Hid (∀ k, k < C → -1000000000000000 ≤ (stripOf dt s t C).getD k 0 ∧ (stripOf dt s t C).getD k 0 ≤ 1000000000000000) := fun k hkk => by rw [strip_get _ _ _ _ _ hkk]; exact hb _ (hk k hkk)
  have HL := hide (strip_len dt s t C)
  have HF := hide hcall
  generalize stripOf dt s t C = xs at *
  have hnn := neq_nil_nil
  have hc1 : (C : Int) - 1 = (cnt : Int) := by omega
  have hc2' : (C : Int) - 2 = (cnt : Int) - 1 := by omega
  obtain ⟨y0, hy0⟩ : ∃ y : Int, (cnt : Int) - 1 = y := ⟨_, rfl⟩
  rw [hy0] at hc2'
  clear hcall h2 hk hb
  have hltC : cnt < C := by omega
  have HC := hide hC
  clear hC
  have HBW : Hid (Below w.heap.size w (w.alloc (.cells #[.slice (some a2) n2 c2, .int .i64 s, .int .i64 t, .int .i64 (C : Nat)] 68))) := (Below.refl _ _).alloc (Nat.le_refl _) _
  have HSB : Hid (∀ wx, Below (w.heap.size + 1) (w.alloc (.cells #[.slice (some a2) n2 c2, .int .i64 s, .int .i64 t, .int .i64 (C : Nat)] 68)) wx → (wx.cell? ⟨w.heap.size, 0, none⟩ = some (.slice (some a2) n2 c2) ∧ wx.cell? ⟨w.heap.size, 1, none⟩ = some (.int .i64 s) ∧ wx.cell? ⟨w.heap.size, 2, none⟩ = some (.int .i64 t) ∧ wx.cell? ⟨w.heap.size, 3, none⟩ = some (.int .i64 (C : Nat))) ∧ Below w.heap.size w wx ∧ w.heap.size + 1 ≤ wx.heap.size) := fun wx hwx =>
    ⟨((SBox.new w _ _ _ _ _ _).below (by simp) hwx).cells, (unhide HBW).trans (hwx.mono (by omega)), by have := hwx.size; simpa using this⟩
  obtain ⟨x, hx⟩ : ∃ x, x = xs.getD cnt 0 := ⟨_, rfl⟩
  have hxb := unhide HXB cnt (by omega)
  rw [← hx] at hxb
  have HF0 : Hid (foldR op (xs.drop cnt) = (x, 0)) := by rw [hx]; exact fold_last (by rw [unhide HL]; exact unhide HC)
  have HX0 := hide hx
  clear hx
  go_enter Tryz.func140, Tryz.ntmps140
  go_wp2_with (go_at_call 121; refine (unhide HX cnt _ (by omega) (unhide HBW)).mono ?_; rintro e w1 ⟨rfl, hb1⟩; rw [← unhide HX0]; have HK1 : Hid (Below (w.heap.size + 1) (w.alloc (.cells #[.slice (some a2) n2 c2, .int .i64 s, .int .i64 t, .int .i64 (C : Nat)] 68)) w1) := hb1.mono (by simp); obtain ⟨⟨k0, k1, k2, k3⟩, hW1, hz1⟩ := unhide HSB _ (unhide HK1); clear hb1 hW1)
  go_loopw [6, 7, 8] (fun s6 s7 _ wr => ∃ (i : Nat) (y r : Int), i ≤ cnt ∧ s7 = .int .i64 y ∧ y = (i : Int) - 1 ∧ s6 = .int .i64 r ∧ Hid (foldR op (xs.drop i) = (r, 0)) ∧ (-1000000000000000 ≤ r ∧ r ≤ 1000000000000000) ∧ Hid (Below (w.heap.size + 1) (w.alloc (.cells #[.slice (some a2) n2 c2, .int .i64 s, .int .i64 t, .int .i64 (C : Nat)] 68)) wr)) (fun _ s7 _ _ => (intOf s7 + 1).toNat)
  case atStart => exact ⟨cnt, y0, x, Nat.le_refl _, rfl, hy0.symm, rfl, HF0, hxb, HK1⟩
  case round =>
    obtain ⟨i, y, r, hi, rfl, hy, rfl, hfr, hrb, hbl⟩ := hrel
    clear HK1 k0 k1 k2 k3 hz1 w1
    obtain ⟨⟨k0, k1, k2, k3⟩, hW1, hz1⟩ := unhide HSB _ (unhide hbl)
    have HW1 := hide hW1
    clear hW1
    by_cases hlt : 0 ≤ y
    · obtain ⟨j, hj⟩ : ∃ j : Nat, y = j := ⟨y.toNat, by omega⟩
      subst hj
      have hij : i = j + 1 := by omega
      subst hij
      clear hy
      obtain ⟨z, hz⟩ : ∃ z, z = xs.getD j 0 := ⟨_, rfl⟩
      have hzb := unhide HXB j (by omega)
      rw [← hz] at hzb
      have hst : foldR op (xs.drop j) = twoOf op z r := by rw [hz]; exact fold_step (by rw [unhide HL]; omega) (unhide hfr)
      obtain ⟨q, hq⟩ : ∃ q, twoOf op z r = q := ⟨_, rfl⟩
      obtain ⟨q1, q2⟩ := q
      have hqb : -1000000000000000 ≤ q1 ∧ q1 ≤ 1000000000000000 := by have := two_bd op z r; rw [hq] at this; exact this
      rw [hq] at hst
      have hcode : codeIn q2 := by have := two_codeIn op z r; rw [hq] at this; exact this
      have HQ : Hid (∀ wx, Below w.heap.size w wx → Calls Tryz.prog g (#[.int .i64 z, .int .i64 r] ++ lb) wx fun e w' => e = .returned (.tuple #[.int .i64 q1, errV ga gb q2]) ∧ ∃ q, w' = wx.drewN q) := fun wx hwx => by
        have := unhide HF wx z r hwx hzb hrb
        rw [hq] at this
        exact this
      by_cases h0 : q2 = 0
      · subst h0
        have HST := hide hst
        have HZ := hide hz
        clear hst hz hq hcode
        go_wp2_with (first
          | (go_at_call 121; refine (unhide HX j _ (by omega) (unhide HW1)).mono ?_; rintro e w2 ⟨rfl, hb2⟩; rw [← unhide HZ]; have HK2 := hide ((unhide hbl).trans (hb2.mono (by omega))); obtain ⟨⟨k0, k1, k2, k3⟩, hW2, hz2⟩ := unhide HSB _ (unhide HK2); have HW2 := hide hW2; clear hb2 hW2)
          | (go_at_fn g; refine (unhide HQ _ (unhide HW2)).mono ?_; rintro e w3 ⟨rfl, q, rfl⟩; simp only [errV_0]))
        go_roundw
        case rel => exact ⟨j, (j : Int) - 1, q1, by omega, by go_num, rfl, rfl, HST, hqb, Below.drewN (unhide HK2) _⟩
        case measure => simp [intOf]
      · have HE : Hid (foldR op xs = (0, q2)) := fold_stop (i := j) (by rw [unhide HL]; omega) (unhide hfr) (by rw [← hz, hq]) h0
        have HZ := hide hz
        have hrv : ∃ p, errV ga gb q2 = .iface 175 (.pointer (some p)) := by
          rcases hcode with h | rfl | rfl
          · exact absurd h h0
          · exact ⟨ga, rfl⟩
          · exact ⟨gb, rfl⟩
        obtain ⟨p, hp⟩ := hrv
        have HP := hide hp
        clear hst hz hq hcode h0 hp
        go_wp2_with (first
          | (go_at_call 121; refine (unhide HX j _ (by omega) (unhide HW1)).mono ?_; rintro e w2 ⟨rfl, hb2⟩; rw [← unhide HZ]; have HK2 := hide ((unhide hbl).trans (hb2.mono (by omega))); obtain ⟨⟨k0, k1, k2, k3⟩, hW2, hz2⟩ := unhide HSB _ (unhide HK2); have HW2 := hide hW2; clear hb2 hW2)
          | (go_at_fn g; refine (unhide HQ _ (unhide HW2)).mono ?_; rintro e w3 ⟨rfl, q, rfl⟩; simp only [unhide HP]))
        go_ret2
        rw [unhide HE]
        refine ⟨?_, Below.drewN (unhide HW2) _⟩
        show _ = Ending.returned (.tuple #[.int .i64 0, errV ga gb q2])
        rw [unhide HP]
        rfl
    · have hi0 : i = 0 := by omega
      subst hi0
      clear hy
      have HE : Hid (foldR op xs = (r, 0)) := by have := unhide hfr; rwa [List.drop_zero] at this
      clear hfr
      go_wp2
      go_ret2
      rw [unhide HE]
      exact ⟨rfl, unhide HW1⟩

end Go.Proofs.YtkgcmpmgaghdhaaGreatDoor
namespace Go.Proofs.YtkgcmpmgaghdhaaGreatDoor
open Go.RowKit Go.Shelf

theorem empty_tab {k : Nat} (h : 1 ≤ k ∧ k ≤ 16) : emptyTab.getD (k - 1) 0 = emptyOf (k : Int) := by
  rcases (show k = 1 ∨ k = 2 ∨ k = 3 ∨ k = 4 ∨ k = 5 ∨ k = 6 ∨ k = 7 ∨ k = 8 ∨ k = 9 ∨ k = 10 ∨ k = 11 ∨ k = 12 ∨ k = 13 ∨ k = 14 ∨ k = 15 ∨ k = 16 by omega) with rfl | rfl | rfl | rfl | rfl | rfl | rfl | rfl | rfl | rfl | rfl | rfl | rfl | rfl | rfl | rfl <;> rfl

/-- The value folds strips by op, in whatever world holds what lies in w. -/
def FoldIs (ga gb : Addr) (op : Int) (v : Value) (w : World) : Prop :=
  ∃ g lb, v = .func (.func g) #[] lb ∧ (∀ args w, (callFunc g args).run Tryz.prog w = .ok (.enter g args) w) ∧ ∀ (W : World) (a2 : Addr) (n2 c2 s t C : Nat) (dt : List Int), Below w.heap.size w W → C ≤ 1000000 → Row W (some a2) n2 dt → (∀ k, k < C → s + k * t < n2) → (∀ k, k < n2 → -1000000000000000 ≤ dt.getD k 0 ∧ dt.getD k 0 ≤ 1000000000000000) →
    Calls Tryz.prog g (#[.agg #[.slice (some a2) n2 c2, .int .i64 s, .int .i64 t, .int .i64 (C : Nat)]] ++ lb) W fun e w' => e = .returned (.tuple #[.int .i64 (foldR op (stripOf dt s t C)).1, errV ga gb (foldR op (stripOf dt s t C)).2]) ∧ Below W.heap.size W w'

theorem FoldIs.below {ga gb : Addr} {op : Int} {v : Value} {w w' : World} (h : FoldIs ga gb op v w) (hb : Below w.heap.size w w') : FoldIs ga gb op v w' := by
  obtain ⟨g, lb, hv, eg, hc⟩ := h
  exact ⟨g, lb, hv, eg, fun W a2 n2 c2 s t C dt hW => hc W a2 n2 c2 s t C dt (hb.trans (hW.mono hb.size))⟩

set_option maxRecDepth 20000 in
set_option maxHeartbeats 2000000 in
theorem foldClo_zero (k : Nat) (ga gb a2 : Addr) (po pc n2 c2 s t : Nat) (dt : List Int) (W : World) (hG : GlF W ga gb) (hk : 1 ≤ k ∧ k ≤ 16) (ho : W.cell? ⟨po, 0, none⟩ = some (.int .i64 (k : Nat))) :
    Calls Tryz.prog 139 #[.agg #[.slice (some a2) n2 c2, .int .i64 s, .int .i64 t, .int .i64 ((0 : Nat) : Int)], .pointer (some ⟨po, 0, none⟩), .pointer (some ⟨pc, 0, none⟩)] W fun e w' => e = .returned (.tuple #[.int .i64 (foldR (k : Int) (stripOf dt s t 0)).1, errV ga gb (foldR (k : Int) (stripOf dt s t 0)).2]) ∧ Below W.heap.size W w' := by
  have HE : Hid (foldR (k : Int) (stripOf dt s t 0) = (emptyTab.getD (k - 1) 0, 0)) := by show _ = _; rw [empty_tab hk]; rfl
  obtain ⟨hk1, hk2⟩ := hk
  obtain ⟨j, rfl⟩ : ∃ j, k = j + 1 := ⟨k - 1, by omega⟩
  have hp := World.block_lt_of_cell? _ _ ho
  have ht := hG.tab j (by omega)
  have hg := World.block_lt_of_cell? _ _ ht
  rw [Nat.add_sub_cancel] at HE
  generalize emptyTab.getD j 0 = x at *
  rw [unhide HE]
  clear HE
  have b1 := ((Below.refl W.heap.size W).alloc (Nat.le_refl _) (.cells #[.slice (some a2) n2 c2, .int .i64 s, .int .i64 t, .int .i64 0] 68)).cell (p := ⟨po, 0, none⟩) hp
  have b2 := ((Below.refl W.heap.size W).alloc (Nat.le_refl _) (.cells #[.slice (some a2) n2 c2, .int .i64 s, .int .i64 t, .int .i64 0] 68)).cell (p := ⟨0, j, none⟩) hg
  rw [ho] at b1
  rw [ht] at b2
  have hj1 : ((j + 1 : Nat) : Int) - 1 = (j : Int) := by omega
  obtain ⟨m, hm⟩ : ∃ m : Int, ((j + 1 : Nat) : Int) = m := ⟨_, rfl⟩
  rw [hm] at b1 hj1
  have hmb : m ≤ 16 ∧ 1 ≤ m := by omega
  obtain ⟨hmb1, hmb2⟩ := hmb
  clear hm ho ht hG
  go_enter Tryz.func139, Tryz.ntmps139
  go_wp2
  go_ret2
  exact ⟨rfl, (Below.refl _ _).alloc (Nat.le_refl _) _⟩

set_option maxRecDepth 20000 in
set_option maxHeartbeats 2000000 in
theorem foldClo_pos (op : Int) (ga gb a2 : Addr) (v : Value) (po pc n2 c2 s t C : Nat) (dt : List Int) (W : World) (hv : OpIs ga gb (twoOf op) v W) (hc : W.cell? ⟨pc, 0, none⟩ = some v) (hC0 : C ≠ 0) (hcs : C ≤ 1000000) (h2 : Row W (some a2) n2 dt) (hk : ∀ k, k < C → s + k * t < n2) (hb : ∀ k, k < n2 → -1000000000000000 ≤ dt.getD k 0 ∧ dt.getD k 0 ≤ 1000000000000000) :
    Calls Tryz.prog 139 #[.agg #[.slice (some a2) n2 c2, .int .i64 s, .int .i64 t, .int .i64 (C : Nat)], .pointer (some ⟨po, 0, none⟩), .pointer (some ⟨pc, 0, none⟩)] W fun e w' => e = .returned (.tuple #[.int .i64 (foldR op (stripOf dt s t C)).1, errV ga gb (foldR op (stripOf dt s t C)).2]) ∧ Below W.heap.size W w' := by
  have HBW : Hid (Below W.heap.size W (W.alloc (.cells #[.slice (some a2) n2 c2, .int .i64 s, .int .i64 t, .int .i64 (C : Nat)] 68))) := (Below.refl _ _).alloc (Nat.le_refl _) _
  have HF := hide (fold_any op ga gb a2 v n2 c2 s t (C - 1) C dt _ (by omega) hcs (hv.below (unhide HBW)) (h2.below (Nat.le_refl _) (unhide HBW)) hk hb)
  have b1 := (unhide HBW).cell (p := ⟨pc, 0, none⟩) (World.block_lt_of_cell? _ _ hc)
  rw [hc] at b1
  obtain ⟨g, lb, rfl, _, _⟩ := hv
  have q0 : ((C : Int) == 0) = false := by simp; omega
  generalize foldR op (stripOf dt s t C) = r at *
  obtain ⟨r1, r2⟩ := r
  obtain ⟨ev, hev⟩ : ∃ ev, ev = errV ga gb r2 := ⟨_, rfl⟩
  simp only [← hev] at HF ⊢
  clear hev hc h2 hk hb hC0
  go_enter Tryz.func139, Tryz.ntmps139
  go_wp2_with (go_at_call 140; refine (unhide HF).mono ?_; rintro e w1 ⟨rfl, hb1⟩; have HB1 := hide ((unhide HBW).trans (hb1.mono (by simp))); clear hb1)
  go_ret2
  exact ⟨rfl, unhide HB1⟩

set_option maxHeartbeats 1000000 in
theorem foldingBy_any (op : Int) (ga gb : Addr) (w : World) (hG : GlF w ga gb) (hop : opIn op = true) : Calls Tryz.prog 95 #[.int .i64 op] w fun e w' => ∃ v, e = .returned v ∧ FoldIs ga gb op v w' ∧ Below w.heap.size w w' := by
  obtain ⟨k, rfl, hk⟩ := opIn_nat hop
  have HG := hide hG
  have HOP := hide hop
  have HK := hide hk
  clear hG hop hk
  go_enter Tryz.func95, Tryz.ntmps95
  go_wp2_with (go_at_call 117; refine (operationOf_eq _ ga gb _ ((unhide HG).gl.alloc _) (unhide HOP)).mono ?_; rintro e w1 ⟨v, rfl, hv, hb1⟩; have HV := hide hv; have HB1 := hide hb1; have hz := hb1.size; obtain ⟨g, lb, rfl, eg, _⟩ := hv; clear hb1)
  go_ret
  have hw : Below w.heap.size w w1 := ((Below.refl _ _).alloc (Nat.le_refl _) _).trans ((unhide HB1).mono (by simp))
  have hz' : w.heap.size + 1 ≤ w1.heap.size := by simpa using hz
  refine ⟨_, rfl, ⟨_, _, rfl, enters_of Tryz.func139 (by kernel_rfl) rfl, fun W a2 n2 c2 s t C dt hW hcs h2 hkk hb => ?_⟩, hw.alloc (by omega) _⟩
  have hW1 : Below w1.heap.size w1 W := ((Below.refl _ _).alloc (Nat.le_refl _) _).trans (hW.mono (by simp))
  have ho : W.cell? ⟨w.heap.size, 0, none⟩ = some (.int .i64 (k : Nat)) := (hW1.cell (p := ⟨w.heap.size, 0, none⟩) (by show w.heap.size < w1.heap.size; omega)).trans (((unhide HB1).cell (p := ⟨w.heap.size, 0, none⟩) (by simp)).trans (cell_of_row _ _ 0 _ _ (0, 0) (heap_alloc_last w _)))
  have hc : W.cell? ⟨w1.heap.size, 0, none⟩ = some (.func (.func g) #[] lb) := (hW.cell (p := ⟨w1.heap.size, 0, none⟩) (by simp)).trans (cell_of_row _ _ 0 _ _ (0, 0) (heap_alloc_last w1 _))
  by_cases hC : C = 0
  · subst hC
    exact foldClo_zero k ga gb a2 w.heap.size w1.heap.size n2 c2 s t dt W ((unhide HG).below (hw.trans (hW1.mono (by omega)))) (unhide HK) ho
  · exact foldClo_pos (k : Int) ga gb a2 _ w.heap.size w1.heap.size n2 c2 s t C dt W ((unhide HV).below hW1) hc hC hcs h2 hkk hb

end Go.Proofs.YtkgcmpmgaghdhaaGreatDoor
namespace Go.Proofs.YtkgcmpmgaghdhaaGreatDoor
open Go.RowKit Go.Shelf

set_option maxRecDepth 20000 in
set_option maxHeartbeats 2000000 in
theorem stripAt_any (B L A k n2 c2 oc ol : Nat) (oa : Option Addr) (a2 : Addr) (w : World) (hA : 0 < A) (hk : k ≤ 100000000) (hL : L ≤ 100000) (hAb : A ≤ 100000) :
    Calls Tryz.prog 97 #[.agg #[.int .i64 (B : Nat), .int .i64 (L : Nat), .int .i64 (A : Nat), .slice oa ol oc], .slice (some a2) n2 c2, .int .i64 (k : Nat)] w fun e w' => e = .returned (.agg #[.slice (some a2) n2 c2, .int .i64 ((k / A * L * A + k % A : Nat) : Int), .int .i64 (A : Nat), .int .i64 (L : Nat)]) ∧ Below w.heap.size w w' := by
  have hq' : (k : Int).tdiv (A : Int) = ((k / A : Nat) : Int) := by rw [Int.tdiv_eq_ediv_of_nonneg (by omega)]; simp
  have hr' : (k : Int).tmod (A : Int) = ((k % A : Nat) : Int) := by rw [Int.tmod_eq_emod_of_nonneg (by omega)]; simp
  have hqb : k / A ≤ 100000000 := Nat.le_trans (Nat.div_le_self _ _) hk
  have hrb : k % A ≤ 100000 := Nat.le_trans (Nat.le_of_lt (Nat.mod_lt _ hA)) hAb
  obtain ⟨q, hq⟩ : ∃ q, q = k / A := ⟨_, rfl⟩
  obtain ⟨r, hr⟩ : ∃ r, r = k % A := ⟨_, rfl⟩
  rw [← hq] at hq' hqb ⊢
  rw [← hr] at hr' hrb ⊢
  have hm1b : q * L ≤ 10000000000000 := Nat.le_trans (Nat.mul_le_mul hqb hL) (by omega)
  have hm2b : q * L * A ≤ 1000000000000000000 := Nat.le_trans (Nat.mul_le_mul hm1b hAb) (by omega)
  obtain ⟨m1, hm1⟩ : ∃ m, m = q * L := ⟨_, rfl⟩
  obtain ⟨m2, hm2⟩ : ∃ m, m = m1 * A := ⟨_, rfl⟩
  rw [← hm1] at hm1b hm2b ⊢
  rw [← hm2] at hm2b ⊢
  have e1 : (q : Int) * (L : Int) = (m1 : Int) := by rw [hm1]; simp
  have e2 : (m1 : Int) * (A : Int) = (m2 : Int) := by rw [hm2]; simp
  obtain ⟨i, hi⟩ : ∃ i, i = m2 + r := ⟨_, rfl⟩
  have e3 : (m2 : Int) + (r : Int) = (i : Int) := by rw [hi]; simp
  rw [← hi]
  have hib : i ≤ 1000000000000100000 := by omega
  have hA0 : ¬ ((A : Int) = 0) := by omega
  clear hi hm1 hm2 hq hr
  go_enter Tryz.func97, Tryz.ntmps97
  go_wp2
  go_quiet (fail)
  go_wp2
  refine bodyPost_ret (v := .agg #[.slice (some a2) n2 c2, .int .i64 (i : Nat), .int .i64 (A : Nat), .int .i64 (L : Nat)]) (by simp [results, Tryz.results97, go_sem]) rfl ?_
  exact ⟨rfl, ((((Below.drewN (((Below.refl _ _).alloc (Nat.le_refl _) _).alloc (by simp) _) _).setCell (by simp) _).setCell (by simp) _).setCell (by simp) _).setCell (by simp) _⟩

/-- Block p holds an axis. -/
def ABox (w : World) (p B L A : Nat) (v : Value) : Prop := w.heap[p]? = some (.cells #[.int .i64 (B : Nat), .int .i64 (L : Nat), .int .i64 (A : Nat), v] 105 (0, 0))
theorem ABox.lt {w : World} {p B L A : Nat} {v : Value} (h : ABox w p B L A v) : p < w.heap.size := lt_of_block h
theorem ABox.cells {w : World} {p B L A : Nat} {v : Value} (h : ABox w p B L A v) : w.cell? ⟨p, 0, none⟩ = some (.int .i64 (B : Nat)) ∧ w.cell? ⟨p, 1, none⟩ = some (.int .i64 (L : Nat)) ∧ w.cell? ⟨p, 2, none⟩ = some (.int .i64 (A : Nat)) ∧ w.cell? ⟨p, 3, none⟩ = some v := ⟨cell_of_row _ _ 0 _ _ _ h, cell_of_row _ _ 1 _ _ _ h, cell_of_row _ _ 2 _ _ _ h, cell_of_row _ _ 3 _ _ _ h⟩
theorem ABox.below {w w' : World} {p B L A K : Nat} {v : Value} (h : ABox w p B L A v) (hB : w.heap.size ≤ K) (hb : Below K w w') : ABox w' p B L A v := (hb.block p (Nat.lt_of_lt_of_le h.lt hB)).trans h
theorem ABox.alloc {w : World} {p B L A : Nat} {v : Value} (h : ABox w p B L A v) (o : Obj) : ABox (w.alloc o) p B L A v := (Below.heap_alloc w o p h.lt).trans h

end Go.Proofs.YtkgcmpmgaghdhaaGreatDoor
namespace Go.Proofs.YtkgcmpmgaghdhaaGreatDoor
open Go.RowKit Go.Shelf

theorem Row.takeS {w : World} {b off n k : Nat} {zs : List Int} (h : Row w (some ⟨b, off, none⟩) n zs) (hk : k ≤ n) : Row w (some ⟨b, off, none⟩) k (zs.take k) := by
  have hl := h.len
  refine ⟨by simp; omega, by have := h.small; omega, ?_⟩
  rcases h.at_ with h0 | ⟨b', o', e, hlt, hc⟩
  · exact .inl (by omega)
  · cases e
    refine .inr ⟨b, off, rfl, hlt, fun i hi => ?_⟩
    rw [hc i (by omega)]
    simp [List.getD_eq_getElem?_getD, hi]

theorem Row.dropS {w : World} {b off n k : Nat} {zs : List Int} (h : Row w (some ⟨b, off, none⟩) n zs) (hk : k ≤ n) : Row w (some ⟨b, off + k, none⟩) (n - k) (zs.drop k) := by
  have hl := h.len
  refine ⟨by simp; omega, by have := h.small; omega, ?_⟩
  rcases h.at_ with h0 | ⟨b', o', e, hlt, hc⟩
  · exact .inl (by omega)
  · cases e
    refine .inr ⟨b, off + k, rfl, hlt, fun i hi => ?_⟩
    rw [show off + k + i = off + (k + i) by omega, hc (k + i) (by omega)]
    simp [List.getD_eq_getElem?_getD, List.getElem?_drop]

theorem Row.zeroS {w : World} {a : Option Addr} {zs : List Int} (h : zs = []) : Row w a 0 zs := ⟨by rw [h]; rfl, by omega, .inl rfl⟩

theorem Row.zeroS' {w : World} {a : Option Addr} {zs : List Int} {n : Nat} (h : zs.length = n + 1) : Row w a (n + 1 - (n + 1)) (zs.drop (n + 1)) := by
  rw [Nat.sub_self]; exact Row.zeroS (List.drop_of_length_le (by omega))

theorem cellsOf_eq (a : Option Addr) (n cap : Nat) (sh : List Int) (w : World) (h : Row w a n sh) (hin : ShapeIn sh) (r : Int) (hr : Hid (prodAll sh = r)) : Calls Tryz.prog 51 #[.slice a n cap] w fun e w' => e = .returned (.int .i64 r) ∧ w' = w := by
  rw [← unhide hr]
  exact cellsOf_any a n cap sh w h (fun k => (hin.take k).bd)

/-- What axisOf answers. -/
def AxisOk (w : World) (B N A : Int) (others : List Int) (e : Ending) (w' : World) : Prop :=
  ∃ oa ol oc, e = .returned (.agg #[.int .i64 B, .int .i64 N, .int .i64 A, .slice oa ol oc]) ∧ Own w' (w.heap.size + 1) oa ol others ∧ Below w.heap.size w w'

end Go.Proofs.YtkgcmpmgaghdhaaGreatDoor
namespace Go.Proofs.YtkgcmpmgaghdhaaGreatDoor
open Go.RowKit Go.Shelf

/-- The end of axisOf: the answer's four fields are stored. -/
theorem axis_end {w wD : World} {B N A : Int} {oa : Option Addr} {ol oc : Nat} {zs : List Int} {x0 x1 x2 x3 : Value} (hO : Own wD (w.heap.size + 1) oa ol zs) (hb : Below w.heap.size w wD) :
    AxisOk w B N A zs (.returned (.agg #[.int .i64 B, .int .i64 N, .int .i64 A, .slice oa ol oc])) ((((wD.setCell ⟨w.heap.size, 0, none⟩ x0).setCell ⟨w.heap.size, 1, none⟩ x1).setCell ⟨w.heap.size, 2, none⟩ x2).setCell ⟨w.heap.size, 3, none⟩ x3) := by
  have hk : ∀ k, At oa ol k → k ≠ w.heap.size := fun k hk => by have := hO.low hk; omega
  exact ⟨oa, ol, oc, rfl, (((hO.other hk _).other hk _).other hk _).other hk _, (((hb.setCell (Nat.le_refl _) _).setCell (Nat.le_refl _) _).setCell (Nat.le_refl _) _).setCell (Nat.le_refl _) _⟩

theorem axis_box {w W0 : World} (h : W0.heap[w.heap.size]? = some (.cells #[.int .i64 0, .int .i64 0, .int .i64 0, .slice none 0 0] 105 (0, 0))) (wx : World) (hx : Below W0.heap.size W0 wx) :
    w.heap.size < wx.heap.size ∧ (wx.cell? ⟨w.heap.size, 0, none⟩ = some (.int .i64 0) ∧ wx.cell? ⟨w.heap.size, 1, none⟩ = some (.int .i64 0) ∧ wx.cell? ⟨w.heap.size, 2, none⟩ = some (.int .i64 0) ∧ wx.cell? ⟨w.heap.size, 3, none⟩ = some (.slice none 0 0)) ∧ wx.frozen? ⟨w.heap.size, 0, none⟩ = false ∧ wx.frozen? ⟨w.heap.size, 1, none⟩ = false ∧ wx.frozen? ⟨w.heap.size, 2, none⟩ = false ∧ wx.frozen? ⟨w.heap.size, 3, none⟩ = false := by
  have hAB := (hx.block _ (lt_of_block h)).trans h
  exact ⟨lt_of_block hAB, ⟨cell_of_row _ _ 0 _ _ _ hAB, cell_of_row _ _ 1 _ _ _ hAB, cell_of_row _ _ 2 _ _ _ hAB, cell_of_row _ _ 3 _ _ _ hAB⟩, frozen_of_row _ _ 0 _ _ hAB, frozen_of_row _ _ 1 _ _ hAB, frozen_of_row _ _ 2 _ _ hAB, frozen_of_row _ _ 3 _ _ hAB⟩

set_option maxRecDepth 20000 in
set_option maxHeartbeats 8000000 in
theorem axisOf_pos (fl : Bool) (b off n c bg : Nat) (sh : List Int) (B N A : Int) (w : World) (h : Row w (some ⟨b, off, none⟩) (n + 1) sh) (hc : n + 1 ≤ c) (hin : ShapeIn sh) (hl5 : n + 1 ≤ 5) (hbg : (fl = true ∧ bg = 0) ∨ (fl = false ∧ bg = n)) (hB : prodAll (sh.take bg) = B) (hN : prodAll ((sh.drop bg).take 1) = N) (hA : prodAll (sh.drop (bg + 1)) = A) :
    Calls Tryz.prog 94 #[.slice (some ⟨b, off, none⟩) (n + 1) c, .bool fl] w (AxisOk w B N A (sh.take bg ++ sh.drop (bg + 1))) := by
  have hs := h.small
  have hbn : bg ≤ n := by omega
  have HIF : Hid (ShapeIn (sh.take bg)) := hin.take _
  have HIM : Hid (ShapeIn ((sh.drop bg).take 1)) := (hin.drop _).take _
  have HIB : Hid (ShapeIn (sh.drop (bg + 1))) := hin.drop _
  have HRF : Hid (Row w (some ⟨b, off, none⟩) bg (sh.take bg)) := h.takeS (by omega)
  have HRM : Hid (Row w (some ⟨b, off + bg, none⟩) 1 ((sh.drop bg).take 1)) := (h.dropS (by omega)).takeS (by omega)
  have HRD : Hid (Row w (some ⟨b, off + (bg + 1), none⟩) (n + 1 - (bg + 1)) (sh.drop (bg + 1))) := h.dropS (by omega)
  have HPB := hide hB
  have HPN := hide hN
  have HPA := hide hA
  have HLN := hide h.len
  clear h hB hN hA
  have hf5 : bg ≤ 1000000 := by omega
  have hk5 : n + 1 - (bg + 1) ≤ 1000000 := by omega
  go_enter Tryz.func94, Tryz.ntmps94
  go_upto_if 15 with fail
  go_cut [5, 6] (fun s5 s6 wr => s5 = .int .i64 (bg : Nat) ∧ s6 = .int .i64 ((bg : Int) + 1) ∧ wr = (w.alloc (.cells #[.int .i64 0, .int .i64 0, .int .i64 0, .slice none 0 0] 105)))
  case first =>
    rcases hbg with ⟨rfl, rfl⟩ | ⟨rfl, rfl⟩
    · go_wp2
      all_goals (go_meet; case rel => exact ⟨rfl, by go_num, rfl⟩)
    · go_wp2
      all_goals (go_meet; case rel => exact ⟨rfl, by go_num, rfl⟩)
  case rest =>
    obtain ⟨rfl, rfl, rfl⟩ := hcut
    clear hbg
    go_upto_region 4 with fail
    go_cut [7, 8] (fun s7 s8 wr => s7 = .slice (some ⟨b, off, none⟩) bg c ∧ (∃ pb cb, s8 = .slice (some pb) (n + 1 - (bg + 1)) cb ∧ Hid (Row w (some pb) (n + 1 - (bg + 1)) (sh.drop (bg + 1)))) ∧ ∃ nq, wr = ((w.alloc (.cells #[.int .i64 0, .int .i64 0, .int .i64 0, .slice none 0 0] 105)).drewN nq))
    case first =>
      by_cases hc1 : c = bg + 1
      · subst hc1
        have hbn' : n = bg := by omega
        subst hbn'
        go_quiet (fail)
        go_wp2
        all_goals (go_meet; case rel => exact ⟨rfl, ⟨⟨b, off, none⟩, 0, by simp, Row.zeroS' (unhide HLN)⟩, _, rfl⟩)
      · have hc2 : bg + 1 < c := by omega
        clear hc1
        go_quiet (fail)
        go_wp2
        all_goals (go_meet; case rel => exact ⟨rfl, ⟨⟨b, off + (bg + 1), none⟩, c - (bg + 1), by simp, HRD⟩, _, rfl⟩)
    case rest =>
      obtain ⟨rfl, ⟨pb, cb, rfl, HRB⟩, nq, rfl⟩ := hcut
      clear HRD
      obtain ⟨kn, hkn⟩ : ∃ kn, n + 1 - (bg + 1) = kn := ⟨_, rfl⟩
      rw [hkn] at hk5 HRB ⊢
      have hcb : bg + 1 ≤ c := by omega
      have hcb2 : bg < c := by omega
      clear hkn
      go_upto_region 5 with fail
      obtain ⟨W0, hW0⟩ : ∃ W0, W0 = ((w.alloc (.cells #[.int .i64 0, .int .i64 0, .int .i64 0, .slice none 0 0] 105)).drewN nq) := ⟨_, rfl⟩
      have hK0 : Below w.heap.size w W0 := by rw [hW0]; exact Below.drewN ((Below.refl _ _).alloc (Nat.le_refl _) _) _
      have hz0 : W0.heap.size = w.heap.size + 1 := by rw [hW0]; simp
      have AB := hide (axis_box (w := w) (W0 := W0) (by rw [hW0]; exact heap_alloc_last w _))
      rw [← hW0]
      clear hW0
      go_region_held (fun wx => Below w.heap.size W0 wx) (first | (repeat (first | exact hKD.mono (by omega) | exact Below.refl _ _ | refine Below.drew ?_ | refine Below.setCell ?_ (by first | omega | (simp <;> omega)) _ | refine Below.alloc ?_ (by first | omega | (simp <;> omega)) _)))
        (first
        | (go_at_call_of 51 (Value.slice (some ⟨b, off, none⟩) bg c); refine (cellsOf_eq _ _ _ (sh.take bg) _ (by first | exact (unhide HRF).below (Nat.le_refl _) hK0.drew | exact (unhide HRF).below (Nat.le_refl _) (hK0.alloc (by omega) _).drew) (unhide HIF) _ HPB).mono ?_; rintro e wA ⟨rfl, rfl⟩)
        | (go_at_call_of 51 (Value.slice (some ⟨b, off + bg, none⟩) 1 (c - bg)); refine (cellsOf_eq _ _ _ ((sh.drop bg).take 1) _ (by first | exact (unhide HRM).below (Nat.le_refl _) hK0.drew | exact (unhide HRM).below (Nat.le_refl _) (hK0.alloc (by omega) _).drew) (unhide HIM) _ HPN).mono ?_; rintro e wA ⟨rfl, rfl⟩)
        | (go_at_call 51; refine (cellsOf_eq _ _ _ (sh.drop (bg + 1)) _ (by first | exact (unhide HRB).below (Nat.le_refl _) hK0.drew | exact (unhide HRB).below (Nat.le_refl _) (hK0.alloc (by omega) _).drew) (unhide HIB) _ HPA).mono ?_; rintro e wA ⟨rfl, rfl⟩)
        | (go_at_call 80; rw [← hz0]; refine (Concat2_any W0.heap.size _ _ _ _ _ _ (sh.take bg) (sh.drop (bg + 1)) _ (cell_of_row _ _ 0 _ _ (0, 0) (heap_alloc_last W0 _)) (cell_of_row _ _ 1 _ _ (0, 0) (heap_alloc_last W0 _)) ((unhide HRF).below (Nat.le_refl _) (hK0.alloc (by omega) _).drew) ((unhide HRB).below (Nat.le_refl _) (hK0.alloc (by omega) _).drew) hf5 hk5).mono ?_; rintro e wD ⟨oa, oc, rfl, hO, hbD⟩; have hKD : Below W0.heap.size W0 wD := ((Below.refl _ _).alloc (Nat.le_refl _) _).drew.trans (hbD.mono (by simp)); have HO := hide (hO.mono (B' := w.heap.size + 1) (by simp; omega)); obtain ⟨hwl, ⟨q0, q1, q2, q3⟩, f0, f1, f2, f3⟩ := unhide AB _ hKD; clear hbD hO))
      all_goals go_wp2
      all_goals refine bodyPost_ret (v := .agg #[.int .i64 B, .int .i64 N, .int .i64 A, .slice oa _ oc]) (by simp [results, Tryz.results94, go_sem, q0, q1, q2, q3]; try rfl) rfl ?_
      all_goals exact axis_end (unhide HO) (hK0.trans (hKD.mono (by omega)))

end Go.Proofs.YtkgcmpmgaghdhaaGreatDoor
namespace Go.Proofs.YtkgcmpmgaghdhaaGreatDoor
open Go.RowKit

set_option maxHeartbeats 1000000 in
theorem elementsOk_any (c : Bool) (a1 a2 : Option Addr) (n1 n2 c1 c2 : Nat) (dt : List Int) (w : World) (h2 : Row w a2 n2 dt) :
    Calls Tryz.prog 113 #[.agg #[.bool c, .slice a1 n1 c1, .slice a2 n2 c2]] w fun e w' => e = .returned (.bool (dt.all (dataOk c))) ∧ Below w.heap.size w w' := by
  have hl2 := hide h2.len
  have hs2 := h2.small
  have H2 := hide h2
  clear h2
  have hW : ∀ o, Below w.heap.size w (w.alloc o) := fun o => (Below.refl _ _).alloc (Nat.le_refl _) _
  cases c with
  | true =>
    go_enter Tryz.func113, Tryz.ntmps113
    go_wp2
    go_loop [5, 11] (fun _ i => ∃ k : Nat, k ≤ n2 ∧ i = .int .i64 k ∧ Hid ((dt.take k).all (dataOk true) = true)) (fun _ i => n2 - (intOf i).toNat)
    case atStart => exact ⟨0, Nat.zero_le _, rfl, rfl⟩
    case round =>
      obtain ⟨k, hk, rfl, hall⟩ := hrel
      by_cases hlt : k < n2
      · obtain ⟨b, off, rfl, hblt, hc⟩ := (unhide H2).get hlt
        have hks : Hid (k < dt.length) := by show k < dt.length; rw [unhide hl2]; exact hlt
        obtain ⟨x, hx⟩ : ∃ x, x = dt.getD k 0 := ⟨_, rfl⟩
        rw [← hx] at hc
        have HX := hide hx
        clear hx
        cases hr : dataOk true x with
        | true =>
          have HA := hide (all_step dt (dataOk true) k (unhide hks) (unhide hall) (by rw [← unhide HX, hr]))
          have HR := hide hr
          clear hr
          go_wp2_with (go_at_call 143; refine (isCharacter_any _ _).mono ?_; rintro e w' ⟨rfl, rfl⟩; rw [unhide HR])
          go_round
          case rel => exact ⟨k + 1, by omega, by go_num, HA⟩
          case measure => simp [intOf]; omega
        | false =>
          have HE := hide (all_not dt (dataOk true) k (unhide hks) (by rw [← unhide HX, hr]))
          have HR := hide hr
          clear hr
          go_wp2_with (go_at_call 143; refine (isCharacter_any _ _).mono ?_; rintro e w' ⟨rfl, rfl⟩; rw [unhide HR])
          go_ret
          exact ⟨ret_bool HE.out.symm, hW _⟩
      · have HA : Hid (dt.all (dataOk true) = true) := by
          have := unhide hall
          rwa [List.take_of_length_le (by rw [unhide hl2]; omega)] at this
        go_wp2
        go_ret
        exact ⟨ret_bool HA.out.symm, hW _⟩
  | false =>
    go_enter Tryz.func113, Tryz.ntmps113
    go_wp2
    go_loop [5, 11] (fun _ i => ∃ k : Nat, k ≤ n2 ∧ i = .int .i64 k ∧ Hid ((dt.take k).all (dataOk false) = true)) (fun _ i => n2 - (intOf i).toNat)
    case atStart => exact ⟨0, Nat.zero_le _, rfl, rfl⟩
    case round =>
      obtain ⟨k, hk, rfl, hall⟩ := hrel
      by_cases hlt : k < n2
      · obtain ⟨b, off, rfl, hblt, hc⟩ := (unhide H2).get hlt
        have hks : Hid (k < dt.length) := by show k < dt.length; rw [unhide hl2]; exact hlt
        obtain ⟨x, hx⟩ : ∃ x, x = dt.getD k 0 := ⟨_, rfl⟩
        rw [← hx] at hc
        have HX := hide hx
        clear hx
        cases hr : dataOk false x with
        | true =>
          have HA := hide (all_step dt (dataOk false) k (unhide hks) (unhide hall) (by rw [← unhide HX, hr]))
          have HR := hide hr
          clear hr
          go_wp2_with (go_at_call 142; refine (isNumber_any _ _).mono ?_; rintro e w' ⟨rfl, rfl⟩; rw [unhide HR])
          go_round
          case rel => exact ⟨k + 1, by omega, by go_num, HA⟩
          case measure => simp [intOf]; omega
        | false =>
          have HE := hide (all_not dt (dataOk false) k (unhide hks) (by rw [← unhide HX, hr]))
          have HR := hide hr
          clear hr
          go_wp2_with (go_at_call 142; refine (isNumber_any _ _).mono ?_; rintro e w' ⟨rfl, rfl⟩; rw [unhide HR])
          go_ret
          exact ⟨ret_bool HE.out.symm, hW _⟩
      · have HA : Hid (dt.all (dataOk false) = true) := by
          have := unhide hall
          rwa [List.take_of_length_le (by rw [unhide hl2]; omega)] at this
        go_wp2
        go_ret
        exact ⟨ret_bool HA.out.symm, hW _⟩

theorem elementsOk_eq (c : Bool) (a1 a2 : Option Addr) (n1 n2 c1 c2 : Nat) (dt : List Int) (w : World) (h2 : Row w a2 n2 dt) (r : Bool) (hr : Hid (dt.all (dataOk c) = r)) :
    Calls Tryz.prog 113 #[.agg #[.bool c, .slice a1 n1 c1, .slice a2 n2 c2]] w fun e w' => e = .returned (.bool r) ∧ Below w.heap.size w w' := by
  rw [← hr.out]; exact elementsOk_any c a1 a2 n1 n2 c1 c2 dt w h2

theorem arr_shape {c : Bool} {sh dt : List Int} (h : shapeB sh = false) : arrOk c sh dt = false := by
  unfold arrOk; unfold shapeB at h
  by_cases h1 : sh.length ≤ 5
  · rw [decide_eq_true h1] at h
    have h2 : ¬ 0 ≤ countOf sh := by simpa using h
    rw [decide_eq_false (p := countOf sh = _) (by omega)]; simp
  · rw [decide_eq_false h1]; rfl

set_option maxHeartbeats 1000000 in
theorem implArrayOk_any (c : Bool) (a1 a2 : Option Addr) (n1 n2 c1 c2 : Nat) (sh dt : List Int) (w : World) (h1 : Row w a1 n1 sh) (h2 : Row w a2 n2 dt) :
    Calls Tryz.prog 43 #[.agg #[.bool c, .slice a1 n1 c1, .slice a2 n2 c2]] w fun e w' => e = .returned (.bool (arrOk c sh dt)) ∧ Below w.heap.size w w' := by
  have hl1 := hide h1.len
  have hl2 := hide h2.len
  have hs1 := h1.small
  have hs2 := h2.small
  have H1 := hide h1
  have H2 := hide h2
  clear h1 h2
  have hW : ∀ o, Below w.heap.size w (w.alloc o) := fun o => (Below.refl _ _).alloc (Nat.le_refl _) _
  cases hsb : shapeB sh with
  | false =>
    have HS := hide hsb
    have HE := hide (arr_shape (c := c) (dt := dt) hsb)
    clear hsb
    go_enter Tryz.func43, Tryz.ntmps43
    go_wp2
    go_quiet ((go_at_call 67; exact Calls.quiet_of_same (shapeOk_eq _ _ _ sh _ (((unhide H1).alloc _).drewN _) false HS)))
    go_wp2
    go_ret
    exact ⟨ret_bool HE.out.symm, Below.drewN (hW _) _⟩
  | true =>
    have HS := hide hsb
    clear hsb
    obtain ⟨cn, hcn⟩ : ∃ cn, countOf sh = cn := ⟨_, rfl⟩
    have HC := hide hcn
    clear hcn
    by_cases hcn : cn = n2
    · have hb : ((n2 : Int) == cn) = true := by simp [hcn]
      have HCN := hide hcn
      clear hcn
      obtain ⟨r, hr⟩ : ∃ r, dt.all (dataOk c) = r := ⟨_, rfl⟩
      have HR := hide hr
      clear hr
      have HE : Hid (arrOk c sh dt = r) := by
        show _ = _
        have h5 := unhide HS
        unfold shapeB at h5
        simp only [Bool.and_eq_true, decide_eq_true_eq] at h5
        unfold arrOk
        rw [unhide HR, decide_eq_true h5.1, decide_eq_true (by rw [unhide HC, unhide HCN, unhide hl2])]; rfl
      go_enter Tryz.func43, Tryz.ntmps43
      go_wp2_with fail
      go_cut [2] (fun r' wr => r' = .bool r ∧ Below w.heap.size w wr)
      case first =>
        go_region_with (first
          | (go_at_call 67; refine (shapeOk_eq _ _ _ sh _ (by first | exact ((unhide H1).alloc _).drew | exact (((unhide H1).alloc _).drewN _)) true HS).mono ?_; rintro e w' ⟨rfl, rfl⟩)
          | (go_at_call 51; refine (cellsOf_count _ _ _ sh _ (by first | exact ((unhide H1).alloc _).drew | exact (((unhide H1).alloc _).drewN _)) (unhide HS) cn HC).mono ?_; rintro e w' ⟨rfl, rfl⟩)
          | (go_at_call 113; refine (elementsOk_eq _ _ _ _ _ _ _ dt _ (by first | exact ((unhide H2).alloc _).drew | exact (((unhide H2).alloc _).drewN _)) r HR).mono ?_; rintro e w' ⟨rfl, hbe⟩))
        all_goals go_wp2_with fail
        all_goals (go_meet; case rel => exact ⟨rfl, (hW _).drew.trans (hbe.mono (by simp))⟩)
      case rest =>
        obtain ⟨rfl, hbc⟩ := hcut
        go_wp2
        go_ret
        exact ⟨ret_bool HE.out.symm, hbc⟩
    · have hb : ((n2 : Int) == cn) = false := by simp; omega
      have HE := hide (arr_count (c := c) (sh := sh) (unhide hl2) (by rw [unhide HC]; exact hcn))
      clear hcn
      go_enter Tryz.func43, Tryz.ntmps43
      go_wp2
      go_quiet (first | (go_at_call 67; exact Calls.quiet_of_same (shapeOk_eq _ _ _ sh _ (((unhide H1).alloc _).drewN _) true HS)) | (go_at_call 51; exact Calls.quiet_of_same (cellsOf_count _ _ _ sh _ (((unhide H1).alloc _).drewN _) (unhide HS) cn HC)))
      go_wp2
      go_ret
      exact ⟨ret_bool HE.out.symm, Below.drewN (hW _) _⟩

theorem implArrayOk_eq (c : Bool) (a1 a2 : Option Addr) (n1 n2 c1 c2 : Nat) (sh dt : List Int) (w : World) (h1 : Row w a1 n1 sh) (h2 : Row w a2 n2 dt) (r : Bool) (hr : Hid (arrOk c sh dt = r)) :
    Calls Tryz.prog 43 #[.agg #[.bool c, .slice a1 n1 c1, .slice a2 n2 c2]] w fun e w' => e = .returned (.bool r) ∧ Below w.heap.size w w' := by
  rw [← hr.out]; exact implArrayOk_any c a1 a2 n1 n2 c1 c2 sh dt w h1 h2

end Go.Proofs.YtkgcmpmgaghdhaaGreatDoor
namespace Go.Proofs.YtkgcmpmgaghdhaaGreatDoor
open Go.RowKit Go.Shelf

theorem without_eq (sh : List Int) (n : Nat) (fl : Bool) (hl : sh.length = n + 1) : without sh fl = sh.take (if fl = true then 0 else n) ++ sh.drop ((if fl = true then 0 else n) + 1) := by
  cases fl
  · simp only [without, hl, Nat.add_sub_cancel, Bool.false_eq_true, if_false]
    rw [List.drop_of_length_le (by omega), List.append_nil]
  · simp [without]

theorem at_eq' (sh : List Int) (n : Nat) (fl : Bool) (hl : sh.length = n + 1) : axisAt sh fl = if fl = true then 0 else n := by
  cases fl <;> simp [axisAt, hl]

theorem one_at (sh : List Int) (k : Nat) (h : k < sh.length) : prodAll ((sh.drop k).take 1) = sh.getD k 0 := by
  rw [List.drop_eq_getElem_cons h, List.take_succ_cons, List.take_zero]; simp [prodAll, h]

/-- axisOf of a shape with axes, in the document's words. -/
theorem axisOf_any (fl : Bool) (a : Addr) (n c B L A : Nat) (sh : List Int) (w : World) (h : Row w (some a) (n + 1) sh) (hc : n + 1 ≤ c) (hin : ShapeIn sh) (hl5 : n + 1 ≤ 5) (hx : AxisIs sh fl B L A) :
    Calls Tryz.prog 94 #[.slice (some a) (n + 1) c, .bool fl] w (AxisOk w B L A (without sh fl)) := by
  obtain ⟨b, off, hab, _, _⟩ := h.get (Nat.succ_pos n)
  cases hab
  have hl := h.len
  have hat := at_eq' sh n fl hl
  have h1 := hx.b
  have h2 := hx.l
  have h3 := hx.a
  unfold axisB at h1
  unfold axisN at h2
  unfold axisA at h3
  rw [hat] at h1 h2 h3
  rw [without_eq sh n fl hl]
  refine axisOf_pos fl b off n c (if fl = true then 0 else n) sh B L A w h hc hin hl5 ?_ h1 ?_ h3
  · cases fl
    · exact .inr ⟨rfl, rfl⟩
    · exact .inl ⟨rfl, rfl⟩
  · rw [one_at _ _ (by rw [hl]; split <;> omega)]; exact h2

/-- What Fold reckons at a place. -/
def foldAt (op : Int) (dt : List Int) (L A k : Nat) : Int × Int := foldR op (stripOf dt (k / A * L * A + k % A) A L)
def scanAt (op : Int) (dt : List Int) (L A k : Nat) : Int × Int := foldR op (stripOf dt (k - k / A % L * A) A (k / A % L + 1))

theorem line_strip (dt : List Int) (p n after q : Nat) : lineOf dt p n after q = stripOf dt (p * n * after + q) after n := by
  unfold lineOf stripOf
  apply List.map_congr_left
  intro i _
  congr 1
  rw [Nat.add_mul]; omega

theorem strip_in {B L A L2 k i : Nat} (hL : B * L * A = L2) (hk : k < B * A) (hA : 0 < A) (hi : i < L) : k / A * L * A + k % A + i * A < L2 := by
  have hp : k / A < B := (Nat.div_lt_iff_lt_mul hA).mpr hk
  have hq : k % A < A := Nat.mod_lt _ hA
  have := line_in hL hp hq hi
  rw [Nat.add_mul] at this
  omega

theorem without_in {c : Bool} {sh dt : List Int} (fl : Bool) (hok : arrOk c sh dt = true) (B L A : Nat) (hx : AxisIs sh fl B L A) (hne : sh ≠ []) : shapeB (without sh fl) = true ∧ countOf (without sh fl) = ((B * A : Nat) : Int) := by
  obtain ⟨hin, _, h5⟩ := shapeIn_of hok
  have hl : 0 < sh.length := List.length_pos_iff.mpr hne
  have hw : ShapeIn (without sh fl) := by unfold without; split; exact hin.drop 1; exact hin.take _
  have hl5 : (without sh fl).length ≤ 5 := by unfold without; split <;> simp <;> omega
  obtain ⟨h1, m, h2⟩ := hw
  have hs : shapeB (without sh fl) = true := shape_good rfl hl5 m h1 h2
  refine ⟨hs, ?_⟩
  rw [← prodAll_count _ hs]
  have hb := hx.b
  have ha := hx.a
  unfold axisB axisAt at hb
  unfold axisA axisAt at ha
  unfold without
  cases fl
  · simp only [Bool.false_eq_true, if_false] at hb ha ⊢
    rw [show sh.length - 1 + 1 = sh.length by omega, List.drop_of_length_le (Nat.le_refl _)] at ha
    have e : prodAll [] = 1 := rfl
    rw [e] at ha
    rw [hb]
    have : A = 1 := by omega
    subst this
    simp
  · simp only [if_true, Nat.zero_add, List.take_zero] at hb ha ⊢
    have e : prodAll [] = 1 := rfl
    rw [e] at hb
    rw [ha]
    have : B = 1 := by omega
    subst this
    simp

theorem But.cell {S : Nat → Prop} {w w' : World} (h : But S w w') {k o : Nat} (hk : k < w.heap.size) (hn : ¬ S k) : w'.cell? ⟨k, o, none⟩ = w.cell? ⟨k, o, none⟩ := World.cell?_of_block (w := w) (a := ⟨k, o, none⟩) (h.block k hk hn)

end Go.Proofs.YtkgcmpmgaghdhaaGreatDoor
