import Derived.Test.YtgjpchnkodnieaaGreatDoorImplPair
import Derived.Test.YtgjpchnkodnieaaGreatDoorMFit0
namespace Go.Proofs.YtgjpchnkodnieaaGreatDoor
open Go.RowKit Go.Shelf

/-- The numbers of a strip. -/
def stripOf (dt : List Int) (start step cnt : Nat) : List Int := (List.range cnt).map fun i => dt.getD (start + i * step) 0

theorem strip_len (dt : List Int) (s t n : Nat) : (stripOf dt s t n).length = n := by simp [stripOf]
theorem strip_get (dt : List Int) (s t n i : Nat) (h : i < n) : (stripOf dt s t n).getD i 0 = dt.getD (s + i * t) 0 := by simp [stripOf, h]

theorem lim_codeIn (r : Int × Bool) : codeIn (limited r).2 := by
  unfold limited
  split
  · exact .inl rfl
  · exact .inr (.inr rfl)

theorem two_codeIn (op a b : Int) : codeIn (twoOf op a b).2 := by
  unfold twoOf
  repeat' split
  all_goals first | exact lim_codeIn _ | exact .inl rfl | exact .inr (.inl rfl)

theorem foldR_codeIn (op : Int) (xs : List Int) : codeIn (foldR op xs).2 := by
  induction xs with
  | nil => exact .inl rfl
  | cons x r ih =>
    by_cases h : r = []
    · subst h; exact .inl rfl
    · rw [foldR_cons h]
      split
      · exact ih
      · exact two_codeIn _ _ _

theorem dropL_cons {xs : List Int} {i : Nat} (h : i < xs.length) : xs.drop i = xs.getD i 0 :: xs.drop (i + 1) := by
  rw [List.drop_eq_getElem_cons h]; simp [h]

theorem fold_last {op : Int} {xs : List Int} {n : Nat} (h : xs.length = n + 1) : foldR op (xs.drop n) = (xs.getD n 0, 0) := by
  rw [dropL_cons (by omega), List.drop_of_length_le (by omega)]; rfl

theorem fold_step {op : Int} {xs : List Int} {i : Nat} {r : Int} (h : i + 1 < xs.length) (hr : foldR op (xs.drop (i + 1)) = (r, 0)) : foldR op (xs.drop i) = twoOf op (xs.getD i 0) r := by
  rw [dropL_cons (by omega), foldR_cons (by intro e; have := congrArg List.length e; simp at this; omega), hr]; rfl

theorem fold_stop {op : Int} {xs : List Int} {i : Nat} {r c : Int} (h : i + 1 < xs.length) (hr : foldR op (xs.drop (i + 1)) = (r, 0)) (hc : (twoOf op (xs.getD i 0) r).2 = c) (h0 : c ≠ 0) : foldR op xs = (0, c) := by
  have e := fold_step (op := op) h hr
  have e2 : foldR op (xs.drop i) = (0, c) := by
    rw [e]; exact Prod.ext (two_code (by rw [hc]; exact h0)) hc
  have := foldR_code (xs.take i) (by intro e; have := congrArg List.length e; simp at this; omega) e2 h0
  rwa [List.take_append_drop] at this

set_option maxRecDepth 20000 in
set_option maxHeartbeats 4000000 in
theorem fold_any (op : Int) (ga gb a2 : Addr) (v : Value) (n2 c2 s t cnt C : Nat) (dt : List Int) (w : World) (hC : C = cnt + 1) (hcs : C ≤ 1000000) (hv : OpIs ga gb (twoOf op) v w) (h2 : Row w (some a2) n2 dt) (hk : ∀ k, k < C → s + k * t < n2) (hb : ∀ k, k < n2 → -1000000000000000 ≤ dt.getD k 0 ∧ dt.getD k 0 ≤ 1000000000000000) :
    Calls Tryz.prog 189 #[.agg #[.slice (some a2) n2 c2, .int .i64 s, .int .i64 t, .int .i64 (C : Nat)], v] w fun e w' => e = .returned (.tuple #[.int .i64 (foldR op (stripOf dt s t C)).1, errV ga gb (foldR op (stripOf dt s t C)).2]) ∧ Below w.heap.size w w' := by
  obtain ⟨g, lb, rfl, eg, hcall⟩ := hv
  have hsm := h2.small
  have HX : Hid (∀ (k : Nat) wx, k < C → Below w.heap.size w wx → Calls Tryz.prog 192 #[.agg #[.slice (some a2) n2 c2, .int .i64 s, .int .i64 t, .int .i64 (C : Nat)], .int .i64 (k : Nat)] wx fun e w' => e = .returned (.int .i64 ((stripOf dt s t C).getD k 0)) ∧ Below wx.heap.size wx w') := fun k wx hkk hwx => by
    rw [strip_get _ _ _ _ _ hkk]
    exact at_any _ n2 c2 s t C k dt wx (h2.below (Nat.le_refl _) hwx) (hk k hkk)
  have HXB : Hid (∀ k, k < C → -1000000000000000 ≤ (stripOf dt s t C).getD k 0 ∧ (stripOf dt s t C).getD k 0 ≤ 1000000000000000) := fun k hkk => by rw [strip_get _ _ _ _ _ hkk]; exact hb _ (hk k hkk)
  have HL := hide (strip_len dt s t C)
  have HF := hide hcall
  generalize stripOf dt s t C = xs at *
  have hnn := neq_nil_nil
  have hc1 : (C : Int) - 1 = (cnt : Int) := by omega
  have hc2' : (C : Int) - 2 = (cnt : Int) - 1 := by omega
  obtain ⟨y0, hy0⟩ : ∃ y : Int, (cnt : Int) - 1 = y := ⟨_, rfl⟩
  rw [hy0] at hc2'
  clear hcall h2 hk hb
  have hltC : cnt < C := by omega
  have HC := hide hC
  clear hC
  have HBW : Hid (Below w.heap.size w (w.alloc (.cells #[.slice (some a2) n2 c2, .int .i64 s, .int .i64 t, .int .i64 (C : Nat)] 145))) := (Below.refl _ _).alloc (Nat.le_refl _) _
  have HSB : Hid (∀ wx, Below (w.heap.size + 1) (w.alloc (.cells #[.slice (some a2) n2 c2, .int .i64 s, .int .i64 t, .int .i64 (C : Nat)] 145)) wx → (wx.cell? ⟨w.heap.size, 0, none⟩ = some (.slice (some a2) n2 c2) ∧ wx.cell? ⟨w.heap.size, 1, none⟩ = some (.int .i64 s) ∧ wx.cell? ⟨w.heap.size, 2, none⟩ = some (.int .i64 t) ∧ wx.cell? ⟨w.heap.size, 3, none⟩ = some (.int .i64 (C : Nat))) ∧ Below w.heap.size w wx ∧ w.heap.size + 1 ≤ wx.heap.size) := fun wx hwx =>
    ⟨((SBox.new w _ _ _ _ _ _).below (by simp) hwx).cells, (unhide HBW).trans (hwx.mono (by omega)), by have := hwx.size; simpa using this⟩
  obtain ⟨x, hx⟩ : ∃ x, x = xs.getD cnt 0 := ⟨_, rfl⟩
  have hxb := unhide HXB cnt (by omega)
  rw [← hx] at hxb
  have HF0 : Hid (foldR op (xs.drop cnt) = (x, 0)) := by rw [hx]; exact fold_last (by rw [unhide HL]; exact unhide HC)
  have HX0 := hide hx
  clear hx
  go_enter Tryz.func189, Tryz.ntmps189
  go_wp2_with (go_at_call 192; refine (unhide HX cnt _ (by omega) (unhide HBW)).mono ?_; rintro e w1 ⟨rfl, hb1⟩; rw [← unhide HX0]; have HK1 : Hid (Below (w.heap.size + 1) (w.alloc (.cells #[.slice (some a2) n2 c2, .int .i64 s, .int .i64 t, .int .i64 (C : Nat)] 145)) w1) := hb1.mono (by simp); obtain ⟨⟨k0, k1, k2, k3⟩, hW1, hz1⟩ := unhide HSB _ (unhide HK1); clear hb1 hW1)
  go_loopw [6, 7, 8] (fun s6 s7 _ wr => ∃ (i : Nat) (y r : Int), i ≤ cnt ∧ s7 = .int .i64 y ∧ y = (i : Int) - 1 ∧ s6 = .int .i64 r ∧ Hid (foldR op (xs.drop i) = (r, 0)) ∧ (-1000000000000000 ≤ r ∧ r ≤ 1000000000000000) ∧ Hid (Below (w.heap.size + 1) (w.alloc (.cells #[.slice (some a2) n2 c2, .int .i64 s, .int .i64 t, .int .i64 (C : Nat)] 145)) wr)) (fun _ s7 _ _ => (intOf s7 + 1).toNat)
  case atStart => exact ⟨cnt, y0, x, Nat.le_refl _, rfl, hy0.symm, rfl, HF0, hxb, HK1⟩
  case round =>
    obtain ⟨i, y, r, hi, rfl, hy, rfl, hfr, hrb, hbl⟩ := hrel
    clear HK1 k0 k1 k2 k3 hz1 w1
    obtain ⟨⟨k0, k1, k2, k3⟩, hW1, hz1⟩ := unhide HSB _ (unhide hbl)
    have HW1 := hide hW1
    clear hW1
    by_cases hlt : 0 ≤ y
    · obtain ⟨j, hj⟩ : ∃ j : Nat, y = j := ⟨y.toNat, by omega⟩
      subst hj
      have hij : i = j + 1 := by omega
      subst hij
      clear hy
      obtain ⟨z, hz⟩ : ∃ z, z = xs.getD j 0 := ⟨_, rfl⟩
      have hzb := unhide HXB j (by omega)
      rw [← hz] at hzb
      have hst : foldR op (xs.drop j) = twoOf op z r := by rw [hz]; exact fold_step (by rw [unhide HL]; omega) (unhide hfr)
      obtain ⟨q, hq⟩ : ∃ q, twoOf op z r = q := ⟨_, rfl⟩
      obtain ⟨q1, q2⟩ := q
      have hqb : -1000000000000000 ≤ q1 ∧ q1 ≤ 1000000000000000 := by have := two_bd op z r; rw [hq] at this; exact this
      rw [hq] at hst
      have hcode : codeIn q2 := by have := two_codeIn op z r; rw [hq] at this; exact this
      have HQ : Hid (∀ wx, Below w.heap.size w wx → Calls Tryz.prog g (#[.int .i64 z, .int .i64 r] ++ lb) wx fun e w' => e = .returned (.tuple #[.int .i64 q1, errV ga gb q2]) ∧ ∃ q, w' = wx.drewN q) := fun wx hwx => by
        have := unhide HF wx z r hwx hzb hrb
        rw [hq] at this
        exact this
      by_cases h0 : q2 = 0
      · subst h0
        have HST := hide hst
        have HZ := hide hz
        clear hst hz hq hcode
        go_wp2_with (first
          | (go_at_call 192; refine (unhide HX j _ (by omega) (unhide HW1)).mono ?_; rintro e w2 ⟨rfl, hb2⟩; rw [← unhide HZ]; have HK2 := hide ((unhide hbl).trans (hb2.mono (by omega))); obtain ⟨⟨k0, k1, k2, k3⟩, hW2, hz2⟩ := unhide HSB _ (unhide HK2); have HW2 := hide hW2; clear hb2 hW2)
          | (go_at_fn g; refine (unhide HQ _ (unhide HW2)).mono ?_; rintro e w3 ⟨rfl, q, rfl⟩; simp only [errV_0]))
        go_roundw
        case rel => exact ⟨j, (j : Int) - 1, q1, by omega, by go_num, rfl, rfl, HST, hqb, Below.drewN (unhide HK2) _⟩
        case measure => simp [intOf]
      · have HE : Hid (foldR op xs = (0, q2)) := fold_stop (i := j) (by rw [unhide HL]; omega) (unhide hfr) (by rw [← hz, hq]) h0
        have HZ := hide hz
        have hrv : ∃ p, errV ga gb q2 = .iface 278 (.pointer (some p)) := by
          rcases hcode with h | rfl | rfl
          · exact absurd h h0
          · exact ⟨ga, rfl⟩
          · exact ⟨gb, rfl⟩
        obtain ⟨p, hp⟩ := hrv
        have HP := hide hp
        clear hst hz hq hcode h0 hp
        go_wp2_with (first
          | (go_at_call 192; refine (unhide HX j _ (by omega) (unhide HW1)).mono ?_; rintro e w2 ⟨rfl, hb2⟩; rw [← unhide HZ]; have HK2 := hide ((unhide hbl).trans (hb2.mono (by omega))); obtain ⟨⟨k0, k1, k2, k3⟩, hW2, hz2⟩ := unhide HSB _ (unhide HK2); have HW2 := hide hW2; clear hb2 hW2)
          | (go_at_fn g; refine (unhide HQ _ (unhide HW2)).mono ?_; rintro e w3 ⟨rfl, q, rfl⟩; simp only [unhide HP]))
        go_ret2
        rw [unhide HE]
        refine ⟨?_, Below.drewN (unhide HW2) _⟩
        show _ = Ending.returned (.tuple #[.int .i64 0, errV ga gb q2])
        rw [unhide HP]
        rfl
    · have hi0 : i = 0 := by omega
      subst hi0
      clear hy
      have HE : Hid (foldR op xs = (r, 0)) := by have := unhide hfr; rwa [List.drop_zero] at this
      clear hfr
      go_wp2
      go_ret2
      rw [unhide HE]
      exact ⟨rfl, unhide HW1⟩

end Go.Proofs.YtgjpchnkodnieaaGreatDoor
