import Derived.Test.YtabjnlhhefkekaaDoorImplPair
import Derived.Test.YtabjnlhhefkekaaDoorFoldMath
import Derived.Test.YtabjnlhhefkekaaDoorImplOpOf
import Derived.BigQuiet
import Derived.Deep.RegionHeld
namespace Go.Proofs.YtabjnlhhefkekaaDoor
open Go.RowKit Go.Shelf

/-- The numbers of a strip. -/
def stripOf (dt : List Int) (start step cnt : Nat) : List Int := (List.range cnt).map fun i => dt.getD (start + i * step) 0

theorem strip_len (dt : List Int) (s t n : Nat) : (stripOf dt s t n).length = n := by simp [stripOf]
theorem strip_get (dt : List Int) (s t n i : Nat) (h : i < n) : (stripOf dt s t n).getD i 0 = dt.getD (s + i * t) 0 := by simp [stripOf, h]

theorem lim_codeIn (r : Int × Bool) : codeIn (limited r).2 := by
  unfold limited
  split
  · exact .inl rfl
  · exact .inr (.inr rfl)

theorem two_codeIn (op a b : Int) : codeIn (twoOf op a b).2 := by
  unfold twoOf
  repeat' split
  all_goals first | exact lim_codeIn _ | exact .inl rfl | exact .inr (.inl rfl)

theorem foldR_codeIn (op : Int) (xs : List Int) : codeIn (foldR op xs).2 := by
  induction xs with
  | nil => exact .inl rfl
  | cons x r ih =>
    by_cases h : r = []
    · subst h; exact .inl rfl
    · rw [foldR_cons h]
      split
      · exact ih
      · exact two_codeIn _ _ _

theorem drop_cons {xs : List Int} {i : Nat} (h : i < xs.length) : xs.drop i = xs.getD i 0 :: xs.drop (i + 1) := by
  rw [List.drop_eq_getElem_cons h]; simp [h]

theorem fold_last {op : Int} {xs : List Int} {n : Nat} (h : xs.length = n + 1) : foldR op (xs.drop n) = (xs.getD n 0, 0) := by
  rw [drop_cons (by omega), List.drop_of_length_le (by omega)]; rfl

theorem fold_step {op : Int} {xs : List Int} {i : Nat} {r : Int} (h : i + 1 < xs.length) (hr : foldR op (xs.drop (i + 1)) = (r, 0)) : foldR op (xs.drop i) = twoOf op (xs.getD i 0) r := by
  rw [drop_cons (by omega), foldR_cons (by intro e; have := congrArg List.length e; simp at this; omega), hr]; rfl

theorem fold_stop {op : Int} {xs : List Int} {i : Nat} {r c : Int} (h : i + 1 < xs.length) (hr : foldR op (xs.drop (i + 1)) = (r, 0)) (hc : (twoOf op (xs.getD i 0) r).2 = c) (h0 : c ≠ 0) : foldR op xs = (0, c) := by
  have e := fold_step (op := op) h hr
  have e2 : foldR op (xs.drop i) = (0, c) := by
    rw [e]; exact Prod.ext (two_code (by rw [hc]; exact h0)) hc
  have := foldR_code (xs.take i) (by intro e; have := congrArg List.length e; simp at this; omega) e2 h0
  rwa [List.take_append_drop] at this

set_option maxRecDepth 20000 in
set_option maxHeartbeats 4000000 in
theorem fold_any (op : Int) (ga gb a2 : Addr) (v : Value) (n2 c2 s t cnt C : Nat) (dt : List Int) (w : World) (hC : C = cnt + 1) (hcs : C ≤ 1000000) (hv : OpIs ga gb (twoOf op) v w) (h2 : Row w (some a2) n2 dt) (hk : ∀ k, k < C → s + k * t < n2) (hb : ∀ k, k < n2 → -1000000000000000 ≤ dt.getD k 0 ∧ dt.getD k 0 ≤ 1000000000000000) :
    Calls Tryd.prog 84 #[.agg #[.slice (some a2) n2 c2, .int .i64 s, .int .i64 t, .int .i64 (C : Nat)], v] w fun e w' => e = .returned (.tuple #[.int .i64 (foldR op (stripOf dt s t C)).1, errV ga gb (foldR op (stripOf dt s t C)).2]) ∧ Below w.heap.size w w' := by
  obtain ⟨g, lb, rfl, eg, hcall⟩ := hv
  have hsm := h2.small
  have HX : Hid (∀ (k : Nat) wx, k < C → Below w.heap.size w wx → Calls Tryd.prog 79 #[.agg #[.slice (some a2) n2 c2, .int .i64 s, .int .i64 t, .int .i64 (C : Nat)], .int .i64 (k : Nat)] wx fun e w' => e = .returned (.int .i64 ((stripOf dt s t C).getD k 0)) ∧ Below wx.heap.size wx w') := fun k wx hkk hwx => by
    rw [strip_get _ _ _ _ _ hkk]
    exact at_any _ n2 c2 s t C k dt wx (h2.below (Nat.le_refl _) hwx) (hk k hkk)
  have HXB : Hid (∀ k, k < C → -1000000000000000 ≤ (stripOf dt s t C).getD k 0 ∧ (stripOf dt s t C).getD k 0 ≤ 1000000000000000) := fun k hkk => by rw [strip_get _ _ _ _ _ hkk]; exact hb _ (hk k hkk)
  have HL := hide (strip_len dt s t C)
  have HF := hide hcall
  generalize stripOf dt s t C = xs at *
  have hnn := neq_nil_nil
  have hc1 : (C : Int) - 1 = (cnt : Int) := by omega
  have hc2' : (C : Int) - 2 = (cnt : Int) - 1 := by omega
  obtain ⟨y0, hy0⟩ : ∃ y : Int, (cnt : Int) - 1 = y := ⟨_, rfl⟩
  rw [hy0] at hc2'
  clear hcall h2 hk hb
  have hltC : cnt < C := by omega
  have HC := hide hC
  clear hC
  have HBW : Hid (Below w.heap.size w (w.alloc (.cells #[.slice (some a2) n2 c2, .int .i64 s, .int .i64 t, .int .i64 (C : Nat)] 61))) := (Below.refl _ _).alloc (Nat.le_refl _) _
  have HSB : Hid (∀ wx, Below (w.heap.size + 1) (w.alloc (.cells #[.slice (some a2) n2 c2, .int .i64 s, .int .i64 t, .int .i64 (C : Nat)] 61)) wx → (wx.cell? ⟨w.heap.size, 0, none⟩ = some (.slice (some a2) n2 c2) ∧ wx.cell? ⟨w.heap.size, 1, none⟩ = some (.int .i64 s) ∧ wx.cell? ⟨w.heap.size, 2, none⟩ = some (.int .i64 t) ∧ wx.cell? ⟨w.heap.size, 3, none⟩ = some (.int .i64 (C : Nat))) ∧ Below w.heap.size w wx ∧ w.heap.size + 1 ≤ wx.heap.size) := fun wx hwx =>
    ⟨((SBox.new w _ _ _ _ _ _).below (by simp) hwx).cells, (unhide HBW).trans (hwx.mono (by omega)), by have := hwx.size; simpa using this⟩
  obtain ⟨x, hx⟩ : ∃ x, x = xs.getD cnt 0 := ⟨_, rfl⟩
  have hxb := unhide HXB cnt (by omega)
  rw [← hx] at hxb
  have HF0 : Hid (foldR op (xs.drop cnt) = (x, 0)) := by rw [hx]; exact fold_last (by rw [unhide HL]; exact unhide HC)
  have HX0 := hide hx
  clear hx
  go_enter Tryd.func84, Tryd.ntmps84
  go_wp2_with (go_at_call 79; refine (unhide HX cnt _ (by omega) (unhide HBW)).mono ?_; rintro e w1 ⟨rfl, hb1⟩; rw [← unhide HX0]; have HK1 : Hid (Below (w.heap.size + 1) (w.alloc (.cells #[.slice (some a2) n2 c2, .int .i64 s, .int .i64 t, .int .i64 (C : Nat)] 61)) w1) := hb1.mono (by simp); obtain ⟨⟨k0, k1, k2, k3⟩, hW1, hz1⟩ := unhide HSB _ (unhide HK1); clear hb1 hW1)
  go_loopw [6, 7, 8] (fun s6 s7 _ wr => ∃ (i : Nat) (y r : Int), i ≤ cnt ∧ s7 = .int .i64 y ∧ y = (i : Int) - 1 ∧ s6 = .int .i64 r ∧ Hid (foldR op (xs.drop i) = (r, 0)) ∧ (-1000000000000000 ≤ r ∧ r ≤ 1000000000000000) ∧ Hid (Below (w.heap.size + 1) (w.alloc (.cells #[.slice (some a2) n2 c2, .int .i64 s, .int .i64 t, .int .i64 (C : Nat)] 61)) wr)) (fun _ s7 _ _ => (intOf s7 + 1).toNat)
  case atStart => exact ⟨cnt, y0, x, Nat.le_refl _, rfl, hy0.symm, rfl, HF0, hxb, HK1⟩
  case round =>
    obtain ⟨i, y, r, hi, rfl, hy, rfl, hfr, hrb, hbl⟩ := hrel
    clear HK1 k0 k1 k2 k3 hz1 w1
    obtain ⟨⟨k0, k1, k2, k3⟩, hW1, hz1⟩ := unhide HSB _ (unhide hbl)
    have HW1 := hide hW1
    clear hW1
    by_cases hlt : 0 ≤ y
    · obtain ⟨j, hj⟩ : ∃ j : Nat, y = j := ⟨y.toNat, by omega⟩
      subst hj
      have hij : i = j + 1 := by omega
      subst hij
      clear hy
      obtain ⟨z, hz⟩ : ∃ z, z = xs.getD j 0 := ⟨_, rfl⟩
      have hzb := unhide HXB j (by omega)
      rw [← hz] at hzb
      have hst : foldR op (xs.drop j) = twoOf op z r := by rw [hz]; exact fold_step (by rw [unhide HL]; omega) (unhide hfr)
      obtain ⟨q, hq⟩ : ∃ q, twoOf op z r = q := ⟨_, rfl⟩
      obtain ⟨q1, q2⟩ := q
      have hqb : -1000000000000000 ≤ q1 ∧ q1 ≤ 1000000000000000 := by have := two_bd op z r; rw [hq] at this; exact this
      rw [hq] at hst
      have hcode : codeIn q2 := by have := two_codeIn op z r; rw [hq] at this; exact this
      have HQ : Hid (∀ wx, Below w.heap.size w wx → Calls Tryd.prog g (#[.int .i64 z, .int .i64 r] ++ lb) wx fun e w' => e = .returned (.tuple #[.int .i64 q1, errV ga gb q2]) ∧ ∃ q, w' = wx.drewN q) := fun wx hwx => by
        have := unhide HF wx z r hwx hzb hrb
        rw [hq] at this
        exact this
      by_cases h0 : q2 = 0
      · subst h0
        have HST := hide hst
        have HZ := hide hz
        clear hst hz hq hcode
        go_wp2_with (first
          | (go_at_call 79; refine (unhide HX j _ (by omega) (unhide HW1)).mono ?_; rintro e w2 ⟨rfl, hb2⟩; rw [← unhide HZ]; have HK2 := hide ((unhide hbl).trans (hb2.mono (by omega))); obtain ⟨⟨k0, k1, k2, k3⟩, hW2, hz2⟩ := unhide HSB _ (unhide HK2); have HW2 := hide hW2; clear hb2 hW2)
          | (go_at_fn g; refine (unhide HQ _ (unhide HW2)).mono ?_; rintro e w3 ⟨rfl, q, rfl⟩; simp only [errV_0]))
        go_roundw
        case rel => exact ⟨j, (j : Int) - 1, q1, by omega, by go_num, rfl, rfl, HST, hqb, Below.drewN (unhide HK2) _⟩
        case measure => simp [intOf]
      · have HE : Hid (foldR op xs = (0, q2)) := fold_stop (i := j) (by rw [unhide HL]; omega) (unhide hfr) (by rw [← hz, hq]) h0
        have HZ := hide hz
        have hrv : ∃ p, errV ga gb q2 = .iface 116 (.pointer (some p)) := by
          rcases hcode with h | rfl | rfl
          · exact absurd h h0
          · exact ⟨ga, rfl⟩
          · exact ⟨gb, rfl⟩
        obtain ⟨p, hp⟩ := hrv
        have HP := hide hp
        clear hst hz hq hcode h0 hp
        go_wp2_with (first
          | (go_at_call 79; refine (unhide HX j _ (by omega) (unhide HW1)).mono ?_; rintro e w2 ⟨rfl, hb2⟩; rw [← unhide HZ]; have HK2 := hide ((unhide hbl).trans (hb2.mono (by omega))); obtain ⟨⟨k0, k1, k2, k3⟩, hW2, hz2⟩ := unhide HSB _ (unhide HK2); have HW2 := hide hW2; clear hb2 hW2)
          | (go_at_fn g; refine (unhide HQ _ (unhide HW2)).mono ?_; rintro e w3 ⟨rfl, q, rfl⟩; simp only [unhide HP]))
        go_ret2
        rw [unhide HE]
        refine ⟨?_, Below.drewN (unhide HW2) _⟩
        show _ = Ending.returned (.tuple #[.int .i64 0, errV ga gb q2])
        rw [unhide HP]
        rfl
    · have hi0 : i = 0 := by omega
      subst hi0
      clear hy
      have HE : Hid (foldR op xs = (r, 0)) := by have := unhide hfr; rwa [List.drop_zero] at this
      clear hfr
      go_wp2
      go_ret2
      rw [unhide HE]
      exact ⟨rfl, unhide HW1⟩

end Go.Proofs.YtabjnlhhefkekaaDoor
namespace Go.Proofs.YtabjnlhhefkekaaDoor
open Go.RowKit Go.Shelf

theorem empty_tab {k : Nat} (h : 1 ≤ k ∧ k ≤ 16) : emptyTab.getD (k - 1) 0 = emptyOf (k : Int) := by
  rcases (show k = 1 ∨ k = 2 ∨ k = 3 ∨ k = 4 ∨ k = 5 ∨ k = 6 ∨ k = 7 ∨ k = 8 ∨ k = 9 ∨ k = 10 ∨ k = 11 ∨ k = 12 ∨ k = 13 ∨ k = 14 ∨ k = 15 ∨ k = 16 by omega) with rfl | rfl | rfl | rfl | rfl | rfl | rfl | rfl | rfl | rfl | rfl | rfl | rfl | rfl | rfl | rfl <;> rfl

/-- The value folds strips by op, in whatever world holds what lies in w. -/
def FoldIs (ga gb : Addr) (op : Int) (v : Value) (w : World) : Prop :=
  ∃ g lb, v = .func (.func g) #[] lb ∧ (∀ args w, (callFunc g args).run Tryd.prog w = .ok (.enter g args) w) ∧ ∀ (W : World) (a2 : Addr) (n2 c2 s t C : Nat) (dt : List Int), Below w.heap.size w W → C ≤ 1000000 → Row W (some a2) n2 dt → (∀ k, k < C → s + k * t < n2) → (∀ k, k < n2 → -1000000000000000 ≤ dt.getD k 0 ∧ dt.getD k 0 ≤ 1000000000000000) →
    Calls Tryd.prog g (#[.agg #[.slice (some a2) n2 c2, .int .i64 s, .int .i64 t, .int .i64 (C : Nat)]] ++ lb) W fun e w' => e = .returned (.tuple #[.int .i64 (foldR op (stripOf dt s t C)).1, errV ga gb (foldR op (stripOf dt s t C)).2]) ∧ Below W.heap.size W w'

theorem FoldIs.below {ga gb : Addr} {op : Int} {v : Value} {w w' : World} (h : FoldIs ga gb op v w) (hb : Below w.heap.size w w') : FoldIs ga gb op v w' := by
  obtain ⟨g, lb, hv, eg, hc⟩ := h
  exact ⟨g, lb, hv, eg, fun W a2 n2 c2 s t C dt hW => hc W a2 n2 c2 s t C dt (hb.trans (hW.mono hb.size))⟩

set_option maxRecDepth 20000 in
set_option maxHeartbeats 2000000 in
theorem foldClo_zero (k : Nat) (ga gb a2 : Addr) (po pc n2 c2 s t : Nat) (dt : List Int) (W : World) (hG : GlF W ga gb) (hk : 1 ≤ k ∧ k ≤ 16) (ho : W.cell? ⟨po, 0, none⟩ = some (.int .i64 (k : Nat))) :
    Calls Tryd.prog 83 #[.agg #[.slice (some a2) n2 c2, .int .i64 s, .int .i64 t, .int .i64 ((0 : Nat) : Int)], .pointer (some ⟨po, 0, none⟩), .pointer (some ⟨pc, 0, none⟩)] W fun e w' => e = .returned (.tuple #[.int .i64 (foldR (k : Int) (stripOf dt s t 0)).1, errV ga gb (foldR (k : Int) (stripOf dt s t 0)).2]) ∧ Below W.heap.size W w' := by
  have HE : Hid (foldR (k : Int) (stripOf dt s t 0) = (emptyTab.getD (k - 1) 0, 0)) := by show _ = _; rw [empty_tab hk]; rfl
  obtain ⟨hk1, hk2⟩ := hk
  obtain ⟨j, rfl⟩ : ∃ j, k = j + 1 := ⟨k - 1, by omega⟩
  have hp := World.block_lt_of_cell? _ _ ho
  have ht := hG.tab j (by omega)
  have hg := World.block_lt_of_cell? _ _ ht
  rw [Nat.add_sub_cancel] at HE
  generalize emptyTab.getD j 0 = x at *
  rw [unhide HE]
  clear HE
  have b1 := ((Below.refl W.heap.size W).alloc (Nat.le_refl _) (.cells #[.slice (some a2) n2 c2, .int .i64 s, .int .i64 t, .int .i64 0] 61)).cell (p := ⟨po, 0, none⟩) hp
  have b2 := ((Below.refl W.heap.size W).alloc (Nat.le_refl _) (.cells #[.slice (some a2) n2 c2, .int .i64 s, .int .i64 t, .int .i64 0] 61)).cell (p := ⟨0, j, none⟩) hg
  rw [ho] at b1
  rw [ht] at b2
  have hj1 : ((j + 1 : Nat) : Int) - 1 = (j : Int) := by omega
  obtain ⟨m, hm⟩ : ∃ m : Int, ((j + 1 : Nat) : Int) = m := ⟨_, rfl⟩
  rw [hm] at b1 hj1
  have hmb : m ≤ 16 ∧ 1 ≤ m := by omega
  obtain ⟨hmb1, hmb2⟩ := hmb
  clear hm ho ht hG
  go_enter Tryd.func83, Tryd.ntmps83
  go_wp2
  go_ret2
  exact ⟨rfl, (Below.refl _ _).alloc (Nat.le_refl _) _⟩

set_option maxRecDepth 20000 in
set_option maxHeartbeats 2000000 in
theorem foldClo_pos (op : Int) (ga gb a2 : Addr) (v : Value) (po pc n2 c2 s t C : Nat) (dt : List Int) (W : World) (hv : OpIs ga gb (twoOf op) v W) (hc : W.cell? ⟨pc, 0, none⟩ = some v) (hC0 : C ≠ 0) (hcs : C ≤ 1000000) (h2 : Row W (some a2) n2 dt) (hk : ∀ k, k < C → s + k * t < n2) (hb : ∀ k, k < n2 → -1000000000000000 ≤ dt.getD k 0 ∧ dt.getD k 0 ≤ 1000000000000000) :
    Calls Tryd.prog 83 #[.agg #[.slice (some a2) n2 c2, .int .i64 s, .int .i64 t, .int .i64 (C : Nat)], .pointer (some ⟨po, 0, none⟩), .pointer (some ⟨pc, 0, none⟩)] W fun e w' => e = .returned (.tuple #[.int .i64 (foldR op (stripOf dt s t C)).1, errV ga gb (foldR op (stripOf dt s t C)).2]) ∧ Below W.heap.size W w' := by
  have HBW : Hid (Below W.heap.size W (W.alloc (.cells #[.slice (some a2) n2 c2, .int .i64 s, .int .i64 t, .int .i64 (C : Nat)] 61))) := (Below.refl _ _).alloc (Nat.le_refl _) _
  have HF := hide (fold_any op ga gb a2 v n2 c2 s t (C - 1) C dt _ (by omega) hcs (hv.below (unhide HBW)) (h2.below (Nat.le_refl _) (unhide HBW)) hk hb)
  have b1 := (unhide HBW).cell (p := ⟨pc, 0, none⟩) (World.block_lt_of_cell? _ _ hc)
  rw [hc] at b1
  obtain ⟨g, lb, rfl, _, _⟩ := hv
  have q0 : ((C : Int) == 0) = false := by simp; omega
  generalize foldR op (stripOf dt s t C) = r at *
  obtain ⟨r1, r2⟩ := r
  obtain ⟨ev, hev⟩ : ∃ ev, ev = errV ga gb r2 := ⟨_, rfl⟩
  simp only [← hev] at HF ⊢
  clear hev hc h2 hk hb hC0
  go_enter Tryd.func83, Tryd.ntmps83
  go_wp2_with (go_at_call 84; refine (unhide HF).mono ?_; rintro e w1 ⟨rfl, hb1⟩; have HB1 := hide ((unhide HBW).trans (hb1.mono (by simp))); clear hb1)
  go_ret2
  exact ⟨rfl, unhide HB1⟩

set_option maxHeartbeats 1000000 in
theorem foldingBy_any (op : Int) (ga gb : Addr) (w : World) (hG : GlF w ga gb) (hop : opIn op = true) : Calls Tryd.prog 56 #[.int .i64 op] w fun e w' => ∃ v, e = .returned v ∧ FoldIs ga gb op v w' ∧ Below w.heap.size w w' := by
  obtain ⟨k, rfl, hk⟩ := opIn_nat hop
  have HG := hide hG
  have HOP := hide hop
  have HK := hide hk
  clear hG hop hk
  go_enter Tryd.func56, Tryd.ntmps56
  go_wp2_with (go_at_call 76; refine (operationOf_eq _ ga gb _ ((unhide HG).gl.alloc _) (unhide HOP)).mono ?_; rintro e w1 ⟨v, rfl, hv, hb1⟩; have HV := hide hv; have HB1 := hide hb1; have hz := hb1.size; obtain ⟨g, lb, rfl, eg, _⟩ := hv; clear hb1)
  go_ret
  have hw : Below w.heap.size w w1 := ((Below.refl _ _).alloc (Nat.le_refl _) _).trans ((unhide HB1).mono (by simp))
  have hz' : w.heap.size + 1 ≤ w1.heap.size := by simpa using hz
  refine ⟨_, rfl, ⟨_, _, rfl, enters_of Tryd.func83 (by kernel_rfl) rfl, fun W a2 n2 c2 s t C dt hW hcs h2 hkk hb => ?_⟩, hw.alloc (by omega) _⟩
  have hW1 : Below w1.heap.size w1 W := ((Below.refl _ _).alloc (Nat.le_refl _) _).trans (hW.mono (by simp))
  have ho : W.cell? ⟨w.heap.size, 0, none⟩ = some (.int .i64 (k : Nat)) := (hW1.cell (p := ⟨w.heap.size, 0, none⟩) (by show w.heap.size < w1.heap.size; omega)).trans (((unhide HB1).cell (p := ⟨w.heap.size, 0, none⟩) (by simp)).trans (cell_of_row _ _ 0 _ _ (0, 0) (heap_alloc_last w _)))
  have hc : W.cell? ⟨w1.heap.size, 0, none⟩ = some (.func (.func g) #[] lb) := (hW.cell (p := ⟨w1.heap.size, 0, none⟩) (by simp)).trans (cell_of_row _ _ 0 _ _ (0, 0) (heap_alloc_last w1 _))
  by_cases hC : C = 0
  · subst hC
    exact foldClo_zero k ga gb a2 w.heap.size w1.heap.size n2 c2 s t dt W ((unhide HG).below (hw.trans (hW1.mono (by omega)))) (unhide HK) ho
  · exact foldClo_pos (k : Int) ga gb a2 _ w.heap.size w1.heap.size n2 c2 s t C dt W ((unhide HV).below hW1) hc hC hcs h2 hkk hb

end Go.Proofs.YtabjnlhhefkekaaDoor
namespace Go.Proofs.YtabjnlhhefkekaaDoor
open Go.RowKit Go.Shelf

set_option maxRecDepth 20000 in
set_option maxHeartbeats 2000000 in
theorem stripAt_any (B L A k n2 c2 oc ol : Nat) (oa : Option Addr) (a2 : Addr) (w : World) (hA : 0 < A) (hk : k ≤ 100000000) (hL : L ≤ 100000) (hAb : A ≤ 100000) :
    Calls Tryd.prog 61 #[.agg #[.int .i64 (B : Nat), .int .i64 (L : Nat), .int .i64 (A : Nat), .slice oa ol oc], .slice (some a2) n2 c2, .int .i64 (k : Nat)] w fun e w' => e = .returned (.agg #[.slice (some a2) n2 c2, .int .i64 ((k / A * L * A + k % A : Nat) : Int), .int .i64 (A : Nat), .int .i64 (L : Nat)]) ∧ Below w.heap.size w w' := by
  have hq' : (k : Int).tdiv (A : Int) = ((k / A : Nat) : Int) := by rw [Int.tdiv_eq_ediv_of_nonneg (by omega)]; simp
  have hr' : (k : Int).tmod (A : Int) = ((k % A : Nat) : Int) := by rw [Int.tmod_eq_emod_of_nonneg (by omega)]; simp
  have hqb : k / A ≤ 100000000 := Nat.le_trans (Nat.div_le_self _ _) hk
  have hrb : k % A ≤ 100000 := Nat.le_trans (Nat.le_of_lt (Nat.mod_lt _ hA)) hAb
  obtain ⟨q, hq⟩ : ∃ q, q = k / A := ⟨_, rfl⟩
  obtain ⟨r, hr⟩ : ∃ r, r = k % A := ⟨_, rfl⟩
  rw [← hq] at hq' hqb ⊢
  rw [← hr] at hr' hrb ⊢
  have hm1b : q * L ≤ 10000000000000 := Nat.le_trans (Nat.mul_le_mul hqb hL) (by omega)
  have hm2b : q * L * A ≤ 1000000000000000000 := Nat.le_trans (Nat.mul_le_mul hm1b hAb) (by omega)
  obtain ⟨m1, hm1⟩ : ∃ m, m = q * L := ⟨_, rfl⟩
  obtain ⟨m2, hm2⟩ : ∃ m, m = m1 * A := ⟨_, rfl⟩
  rw [← hm1] at hm1b hm2b ⊢
  rw [← hm2] at hm2b ⊢
  have e1 : (q : Int) * (L : Int) = (m1 : Int) := by rw [hm1]; simp
  have e2 : (m1 : Int) * (A : Int) = (m2 : Int) := by rw [hm2]; simp
  obtain ⟨i, hi⟩ : ∃ i, i = m2 + r := ⟨_, rfl⟩
  have e3 : (m2 : Int) + (r : Int) = (i : Int) := by rw [hi]; simp
  rw [← hi]
  have hib : i ≤ 1000000000000100000 := by omega
  have hA0 : ¬ ((A : Int) = 0) := by omega
  clear hi hm1 hm2 hq hr
  go_enter Tryd.func61, Tryd.ntmps61
  go_wp2
  go_quiet (fail)
  go_wp2
  refine bodyPost_ret (v := .agg #[.slice (some a2) n2 c2, .int .i64 (i : Nat), .int .i64 (A : Nat), .int .i64 (L : Nat)]) (by simp [results, Tryd.results61, go_sem]) rfl ?_
  exact ⟨rfl, ((((Below.drewN (((Below.refl _ _).alloc (Nat.le_refl _) _).alloc (by simp) _) _).setCell (by simp) _).setCell (by simp) _).setCell (by simp) _).setCell (by simp) _⟩

set_option maxRecDepth 20000 in
set_option maxHeartbeats 2000000 in
theorem stripUpTo_any (B L A k n2 c2 oc ol : Nat) (oa : Option Addr) (a2 : Addr) (w : World) (hA : 0 < A) (hL0 : 0 < L) (hk : k ≤ 100000000) (hL : L ≤ 100000) (hAb : A ≤ 100000) :
    Calls Tryd.prog 58 #[.agg #[.int .i64 (B : Nat), .int .i64 (L : Nat), .int .i64 (A : Nat), .slice oa ol oc], .slice (some a2) n2 c2, .int .i64 (k : Nat)] w fun e w' => e = .returned (.agg #[.slice (some a2) n2 c2, .int .i64 ((k - k / A % L * A : Nat) : Int), .int .i64 (A : Nat), .int .i64 ((k / A % L + 1 : Nat) : Int)]) ∧ Below w.heap.size w w' := by
  have hq' : (k : Int).tdiv (A : Int) = ((k / A : Nat) : Int) := by rw [Int.tdiv_eq_ediv_of_nonneg (by omega)]; simp
  have hr' : ((k / A : Nat) : Int).tmod (L : Int) = ((k / A % L : Nat) : Int) := by rw [Int.tmod_eq_emod_of_nonneg (Int.natCast_nonneg _)]; simp
  have hqb : k / A ≤ 100000000 := Nat.le_trans (Nat.div_le_self _ _) hk
  have hrb : k / A % L ≤ 100000 := Nat.le_trans (Nat.le_of_lt (Nat.mod_lt _ hL0)) hL
  have hle : k / A % L * A ≤ k := Nat.le_trans (Nat.mul_le_mul_right A (Nat.mod_le _ _)) (Nat.div_mul_le_self k A)
  obtain ⟨q, hq⟩ : ∃ q, q = k / A := ⟨_, rfl⟩
  rw [← hq] at hq' hqb hr' hrb hle ⊢
  obtain ⟨r, hr⟩ : ∃ r, r = q % L := ⟨_, rfl⟩
  rw [← hr] at hr' hrb hle ⊢
  obtain ⟨m1, hm1⟩ : ∃ m, m = r * A := ⟨_, rfl⟩
  rw [← hm1] at hle ⊢
  have e1 : (r : Int) * (A : Int) = (m1 : Int) := by rw [hm1]; simp
  obtain ⟨i, hi⟩ : ∃ i, i = k - m1 := ⟨_, rfl⟩
  have e2 : (k : Int) - (m1 : Int) = (i : Int) := by omega
  obtain ⟨j, hj⟩ : ∃ j, j = r + 1 := ⟨_, rfl⟩
  have e3 : (r : Int) + 1 = (j : Int) := by omega
  rw [← hi, ← hj]
  have hib : i ≤ 100000000 := by omega
  have hjb : j ≤ 100001 := by omega
  have hm1b : m1 ≤ 100000000 := by omega
  have hA0 : ¬ ((A : Int) = 0) := by omega
  have hL0' : ¬ ((L : Int) = 0) := by omega
  clear hi hm1 hq hr hj hle
  go_enter Tryd.func58, Tryd.ntmps58
  go_wp2
  go_quiet (fail)
  go_wp2
  refine bodyPost_ret (v := .agg #[.slice (some a2) n2 c2, .int .i64 (i : Nat), .int .i64 (A : Nat), .int .i64 (j : Nat)]) (by simp [results, Tryd.results58, go_sem]) rfl ?_
  exact ⟨rfl, ((((Below.drewN (((Below.refl _ _).alloc (Nat.le_refl _) _).alloc (by simp) _) _).setCell (by simp) _).setCell (by simp) _).setCell (by simp) _).setCell (by simp) _⟩

/-- Block p holds an axis. -/
def ABox (w : World) (p B L A : Nat) (v : Value) : Prop := w.heap[p]? = some (.cells #[.int .i64 (B : Nat), .int .i64 (L : Nat), .int .i64 (A : Nat), v] 73 (0, 0))
theorem ABox.lt {w : World} {p B L A : Nat} {v : Value} (h : ABox w p B L A v) : p < w.heap.size := lt_of_block h
theorem ABox.cells {w : World} {p B L A : Nat} {v : Value} (h : ABox w p B L A v) : w.cell? ⟨p, 0, none⟩ = some (.int .i64 (B : Nat)) ∧ w.cell? ⟨p, 1, none⟩ = some (.int .i64 (L : Nat)) ∧ w.cell? ⟨p, 2, none⟩ = some (.int .i64 (A : Nat)) ∧ w.cell? ⟨p, 3, none⟩ = some v := ⟨cell_of_row _ _ 0 _ _ _ h, cell_of_row _ _ 1 _ _ _ h, cell_of_row _ _ 2 _ _ _ h, cell_of_row _ _ 3 _ _ _ h⟩
theorem ABox.below {w w' : World} {p B L A K : Nat} {v : Value} (h : ABox w p B L A v) (hB : w.heap.size ≤ K) (hb : Below K w w') : ABox w' p B L A v := (hb.block p (Nat.lt_of_lt_of_le h.lt hB)).trans h
theorem ABox.alloc {w : World} {p B L A : Nat} {v : Value} (h : ABox w p B L A v) (o : Obj) : ABox (w.alloc o) p B L A v := (Below.heap_alloc w o p h.lt).trans h

end Go.Proofs.YtabjnlhhefkekaaDoor
namespace Go.Proofs.YtabjnlhhefkekaaDoor
open Go.RowKit Go.Shelf

set_option maxHeartbeats 4000000 in
theorem foldClo (op : Int) (ga gb a2 : Addr) (v v1 vo : Value) (p9 p8 pa B L A n2 c2 k : Nat) (c : Bool) (dt : List Int) (W : World) (hv : FoldIs ga gb op v W) (hc : W.cell? ⟨p9, 0, none⟩ = some v) (hX : ABox W p8 B L A vo) (hvo : ∃ oa ol oc, vo = .slice oa ol oc) (hB : Box W pa c v1 (.slice (some a2) n2 c2)) (h2 : Row W (some a2) n2 dt)  (hA : 0 < A) (hk : k ≤ 100000000) (hL : L ≤ 100000) (hAb : A ≤ 100000) (hin : ∀ i, i < L → k / A * L * A + k % A + i * A < n2) (hb : ∀ k, k < n2 → -1000000000000000 ≤ dt.getD k 0 ∧ dt.getD k 0 ≤ 1000000000000000) :
    Calls Tryd.prog 60 #[.int .i64 (k : Nat), .pointer (some ⟨p9, 0, none⟩), .pointer (some ⟨p8, 0, none⟩), .pointer (some ⟨pa, 0, none⟩)] W fun e w' => e = .returned (.tuple #[.int .i64 (foldR op (stripOf dt (k / A * L * A + k % A) A (L))).1, errV ga gb (foldR op (stripOf dt (k / A * L * A + k % A) A (L))).2]) ∧ Below W.heap.size W w' := by
  obtain ⟨g, lb, rfl, eg, hcall⟩ := hv
  obtain ⟨oa, ol, oc, rfl⟩ := hvo
  have HS : Hid (∀ wx, Below W.heap.size W wx → Calls Tryd.prog 61 #[.agg #[.int .i64 (B : Nat), .int .i64 (L : Nat), .int .i64 (A : Nat), .slice oa ol oc], .slice (some a2) n2 c2, .int .i64 (k : Nat)] wx fun e w' => e = .returned (.agg #[.slice (some a2) n2 c2, .int .i64 ((k / A * L * A + k % A : Nat) : Int), .int .i64 (A : Nat), .int .i64 ((L : Nat) : Int)]) ∧ Below wx.heap.size wx w') := fun wx _ => stripAt_any B L A k n2 c2 oc ol oa a2 wx hA hk hL hAb
  have HF : Hid (∀ wx, Below W.heap.size W wx → Calls Tryd.prog g (#[.agg #[.slice (some a2) n2 c2, .int .i64 ((k / A * L * A + k % A : Nat) : Int), .int .i64 (A : Nat), .int .i64 ((L : Nat) : Int)]] ++ lb) wx fun e w' => e = .returned (.tuple #[.int .i64 (foldR op (stripOf dt (k / A * L * A + k % A) A (L))).1, errV ga gb (foldR op (stripOf dt (k / A * L * A + k % A) A (L))).2]) ∧ Below wx.heap.size wx w') := fun wx hwx => hcall wx a2 n2 c2 _ _ _ dt hwx (by omega) (h2.below (Nat.le_refl _) hwx) hin hb
  have hpl := World.block_lt_of_cell? _ _ hc
  have HKEEP : ∀ wx, Below W.heap.size W wx → Below W.heap.size W wx ∧ wx.cell? ⟨p9, 0, none⟩ = some (.func (.func g) #[] lb) ∧ (wx.cell? ⟨p8, 0, none⟩ = some (.int .i64 (B : Nat)) ∧ wx.cell? ⟨p8, 1, none⟩ = some (.int .i64 (L : Nat)) ∧ wx.cell? ⟨p8, 2, none⟩ = some (.int .i64 (A : Nat)) ∧ wx.cell? ⟨p8, 3, none⟩ = some (.slice oa ol oc)) ∧ wx.cell? ⟨pa, 2, none⟩ = some (.slice (some a2) n2 c2) := fun wx hwx => ⟨hwx, (hwx.cell (p := ⟨p9, 0, none⟩) hpl).trans hc, (hX.below (Nat.le_refl _) hwx).cells, (hB.below (Nat.le_refl _) hwx).cells.2.2⟩
  generalize foldR op (stripOf dt (k / A * L * A + k % A) A (L)) = r at *
  obtain ⟨r1, r2⟩ := r
  generalize k / A * L * A + k % A = st at *
  obtain ⟨ev, hev⟩ : ∃ ev, ev = errV ga gb r2 := ⟨_, rfl⟩
  simp only [← hev]
  have HEV := hide hev
  clear hev hcall h2 hin hb hX hB hc
  obtain ⟨_, z0, ⟨x0, x1, x2, x3⟩, y2⟩ := HKEEP _ (Below.refl _ _)
  go_enter Tryd.func60, Tryd.ntmps60
  go_wp2_with fail
  go_region_held (fun wx => Below W.heap.size W wx ∧ wx.cell? ⟨p9, 0, none⟩ = some (.func (.func g) #[] lb) ∧ (wx.cell? ⟨p8, 0, none⟩ = some (.int .i64 (B : Nat)) ∧ wx.cell? ⟨p8, 1, none⟩ = some (.int .i64 (L : Nat)) ∧ wx.cell? ⟨p8, 2, none⟩ = some (.int .i64 (A : Nat)) ∧ wx.cell? ⟨p8, 3, none⟩ = some (.slice oa ol oc)) ∧ wx.cell? ⟨pa, 2, none⟩ = some (.slice (some a2) n2 c2)) (first | (refine HKEEP _ ?_; repeat (first | exact hKC | exact hKA | exact Below.refl _ _ | refine Below.drew ?_)))
    (first
    | (go_at_call 61; refine (unhide HS _ (Below.refl _ _).drew).mono ?_; rintro e wA ⟨rfl, hbA⟩; have hKA : Below W.heap.size W wA := (Below.refl _ _).drew.trans (hbA.mono (by simp)); obtain ⟨_, z0, ⟨x0, x1, x2, x3⟩, y2⟩ := HKEEP _ hKA)
    | (go_at_fn g; refine (unhide HF _ hKA).mono ?_; rintro e wC ⟨rfl, hbC⟩; have hKC : Below W.heap.size W wC := hKA.trans (hbC.mono hKA.size); simp only [← unhide HEV]))
  go_wp2
  go_ret2
  exact ⟨rfl, hKC⟩

set_option maxHeartbeats 4000000 in
theorem scanClo (op : Int) (ga gb a2 : Addr) (v v1 vo : Value) (p9 p8 pa B L A n2 c2 k : Nat) (c : Bool) (dt : List Int) (W : World) (hv : FoldIs ga gb op v W) (hc : W.cell? ⟨p9, 0, none⟩ = some v) (hX : ABox W p8 B L A vo) (hvo : ∃ oa ol oc, vo = .slice oa ol oc) (hB : Box W pa c v1 (.slice (some a2) n2 c2)) (h2 : Row W (some a2) n2 dt) (hL0 : 0 < L) (hA : 0 < A) (hk : k ≤ 100000000) (hL : L ≤ 100000) (hAb : A ≤ 100000) (hin : ∀ i, i < k / A % L + 1 → k - k / A % L * A + i * A < n2) (hb : ∀ k, k < n2 → -1000000000000000 ≤ dt.getD k 0 ∧ dt.getD k 0 ≤ 1000000000000000) :
    Calls Tryd.prog 57 #[.int .i64 (k : Nat), .pointer (some ⟨p9, 0, none⟩), .pointer (some ⟨p8, 0, none⟩), .pointer (some ⟨pa, 0, none⟩)] W fun e w' => e = .returned (.tuple #[.int .i64 (foldR op (stripOf dt (k - k / A % L * A) A (k / A % L + 1))).1, errV ga gb (foldR op (stripOf dt (k - k / A % L * A) A (k / A % L + 1))).2]) ∧ Below W.heap.size W w' := by
  obtain ⟨g, lb, rfl, eg, hcall⟩ := hv
  obtain ⟨oa, ol, oc, rfl⟩ := hvo
  have HS : Hid (∀ wx, Below W.heap.size W wx → Calls Tryd.prog 58 #[.agg #[.int .i64 (B : Nat), .int .i64 (L : Nat), .int .i64 (A : Nat), .slice oa ol oc], .slice (some a2) n2 c2, .int .i64 (k : Nat)] wx fun e w' => e = .returned (.agg #[.slice (some a2) n2 c2, .int .i64 ((k - k / A % L * A : Nat) : Int), .int .i64 (A : Nat), .int .i64 ((k / A % L + 1 : Nat) : Int)]) ∧ Below wx.heap.size wx w') := fun wx _ => stripUpTo_any B L A k n2 c2 oc ol oa a2 wx hA hL0 hk hL hAb
  have HF : Hid (∀ wx, Below W.heap.size W wx → Calls Tryd.prog g (#[.agg #[.slice (some a2) n2 c2, .int .i64 ((k - k / A % L * A : Nat) : Int), .int .i64 (A : Nat), .int .i64 ((k / A % L + 1 : Nat) : Int)]] ++ lb) wx fun e w' => e = .returned (.tuple #[.int .i64 (foldR op (stripOf dt (k - k / A % L * A) A (k / A % L + 1))).1, errV ga gb (foldR op (stripOf dt (k - k / A % L * A) A (k / A % L + 1))).2]) ∧ Below wx.heap.size wx w') := fun wx hwx => hcall wx a2 n2 c2 _ _ _ dt hwx (by have := Nat.mod_lt (k / A) hL0; omega) (h2.below (Nat.le_refl _) hwx) hin hb
  have hpl := World.block_lt_of_cell? _ _ hc
  have HKEEP : ∀ wx, Below W.heap.size W wx → Below W.heap.size W wx ∧ wx.cell? ⟨p9, 0, none⟩ = some (.func (.func g) #[] lb) ∧ (wx.cell? ⟨p8, 0, none⟩ = some (.int .i64 (B : Nat)) ∧ wx.cell? ⟨p8, 1, none⟩ = some (.int .i64 (L : Nat)) ∧ wx.cell? ⟨p8, 2, none⟩ = some (.int .i64 (A : Nat)) ∧ wx.cell? ⟨p8, 3, none⟩ = some (.slice oa ol oc)) ∧ wx.cell? ⟨pa, 2, none⟩ = some (.slice (some a2) n2 c2) := fun wx hwx => ⟨hwx, (hwx.cell (p := ⟨p9, 0, none⟩) hpl).trans hc, (hX.below (Nat.le_refl _) hwx).cells, (hB.below (Nat.le_refl _) hwx).cells.2.2⟩
  generalize foldR op (stripOf dt (k - k / A % L * A) A (k / A % L + 1)) = r at *
  obtain ⟨r1, r2⟩ := r
  generalize k - k / A % L * A = st at *
  generalize k / A % L + 1 = cn at *
  obtain ⟨ev, hev⟩ : ∃ ev, ev = errV ga gb r2 := ⟨_, rfl⟩
  simp only [← hev]
  have HEV := hide hev
  clear hev hcall h2 hin hb hX hB hc
  obtain ⟨_, z0, ⟨x0, x1, x2, x3⟩, y2⟩ := HKEEP _ (Below.refl _ _)
  go_enter Tryd.func57, Tryd.ntmps57
  go_wp2_with fail
  go_region_held (fun wx => Below W.heap.size W wx ∧ wx.cell? ⟨p9, 0, none⟩ = some (.func (.func g) #[] lb) ∧ (wx.cell? ⟨p8, 0, none⟩ = some (.int .i64 (B : Nat)) ∧ wx.cell? ⟨p8, 1, none⟩ = some (.int .i64 (L : Nat)) ∧ wx.cell? ⟨p8, 2, none⟩ = some (.int .i64 (A : Nat)) ∧ wx.cell? ⟨p8, 3, none⟩ = some (.slice oa ol oc)) ∧ wx.cell? ⟨pa, 2, none⟩ = some (.slice (some a2) n2 c2)) (first | (refine HKEEP _ ?_; repeat (first | exact hKC | exact hKA | exact Below.refl _ _ | refine Below.drew ?_)))
    (first
    | (go_at_call 58; refine (unhide HS _ (Below.refl _ _).drew).mono ?_; rintro e wA ⟨rfl, hbA⟩; have hKA : Below W.heap.size W wA := (Below.refl _ _).drew.trans (hbA.mono (by simp)); obtain ⟨_, z0, ⟨x0, x1, x2, x3⟩, y2⟩ := HKEEP _ hKA)
    | (go_at_fn g; refine (unhide HF _ hKA).mono ?_; rintro e wC ⟨rfl, hbC⟩; have hKC : Below W.heap.size W wC := hKA.trans (hbC.mono hKA.size); simp only [← unhide HEV]))
  go_wp2
  go_ret2
  exact ⟨rfl, hKC⟩

end Go.Proofs.YtabjnlhhefkekaaDoor
