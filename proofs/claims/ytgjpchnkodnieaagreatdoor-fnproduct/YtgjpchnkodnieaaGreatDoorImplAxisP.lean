import Derived.Test.YtgjpchnkodnieaaGreatDoorImplAxisA
namespace Go.Proofs.YtgjpchnkodnieaaGreatDoor
open Go.RowKit Go.Shelf

/-- The end of axisOf: the answer's four fields are stored. -/
theorem axis_end {w wD : World} {B N A : Int} {oa : Option Addr} {ol oc : Nat} {zs : List Int} {x0 x1 x2 x3 : Value} (hO : Own wD (w.heap.size + 1) oa ol zs) (hb : Below w.heap.size w wD) :
    AxisOk w B N A zs (.returned (.agg #[.int .i64 B, .int .i64 N, .int .i64 A, .slice oa ol oc])) ((((wD.setCell ⟨w.heap.size, 0, none⟩ x0).setCell ⟨w.heap.size, 1, none⟩ x1).setCell ⟨w.heap.size, 2, none⟩ x2).setCell ⟨w.heap.size, 3, none⟩ x3) := by
  have hk : ∀ k, At oa ol k → k ≠ w.heap.size := fun k hk => by have := hO.low hk; omega
  exact ⟨oa, ol, oc, rfl, (((hO.other hk _).other hk _).other hk _).other hk _, (((hb.setCell (Nat.le_refl _) _).setCell (Nat.le_refl _) _).setCell (Nat.le_refl _) _).setCell (Nat.le_refl _) _⟩

theorem axis_box {w W0 : World} (h : W0.heap[w.heap.size]? = some (.cells #[.int .i64 0, .int .i64 0, .int .i64 0, .slice none 0 0] 133 (0, 0))) (wx : World) (hx : Below W0.heap.size W0 wx) :
    w.heap.size < wx.heap.size ∧ (wx.cell? ⟨w.heap.size, 0, none⟩ = some (.int .i64 0) ∧ wx.cell? ⟨w.heap.size, 1, none⟩ = some (.int .i64 0) ∧ wx.cell? ⟨w.heap.size, 2, none⟩ = some (.int .i64 0) ∧ wx.cell? ⟨w.heap.size, 3, none⟩ = some (.slice none 0 0)) ∧ wx.frozen? ⟨w.heap.size, 0, none⟩ = false ∧ wx.frozen? ⟨w.heap.size, 1, none⟩ = false ∧ wx.frozen? ⟨w.heap.size, 2, none⟩ = false ∧ wx.frozen? ⟨w.heap.size, 3, none⟩ = false := by
  have hAB := (hx.block _ (lt_of_block h)).trans h
  exact ⟨lt_of_block hAB, ⟨cell_of_row _ _ 0 _ _ _ hAB, cell_of_row _ _ 1 _ _ _ hAB, cell_of_row _ _ 2 _ _ _ hAB, cell_of_row _ _ 3 _ _ _ hAB⟩, frozen_of_row _ _ 0 _ _ hAB, frozen_of_row _ _ 1 _ _ hAB, frozen_of_row _ _ 2 _ _ hAB, frozen_of_row _ _ 3 _ _ hAB⟩

set_option maxRecDepth 20000 in
set_option maxHeartbeats 8000000 in
theorem axisOf_pos (fl : Bool) (b off n c bg : Nat) (sh : List Int) (B N A : Int) (w : World) (h : Row w (some ⟨b, off, none⟩) (n + 1) sh) (hc : n + 1 ≤ c) (hin : ShapeIn sh) (hl5 : n + 1 ≤ 5) (hbg : (fl = true ∧ bg = 0) ∨ (fl = false ∧ bg = n)) (hB : prodAll (sh.take bg) = B) (hN : prodAll ((sh.drop bg).take 1) = N) (hA : prodAll (sh.drop (bg + 1)) = A) :
    Calls Tryz.prog 112 #[.slice (some ⟨b, off, none⟩) (n + 1) c, .bool fl] w (AxisOk w B N A (sh.take bg ++ sh.drop (bg + 1))) := by
  have hs := h.small
  have hbn : bg ≤ n := by omega
  have HIF : Hid (ShapeIn (sh.take bg)) := hin.take _
  have HIM : Hid (ShapeIn ((sh.drop bg).take 1)) := (hin.drop _).take _
  have HIB : Hid (ShapeIn (sh.drop (bg + 1))) := hin.drop _
  have HRF : Hid (Row w (some ⟨b, off, none⟩) bg (sh.take bg)) := h.takeS (by omega)
  have HRM : Hid (Row w (some ⟨b, off + bg, none⟩) 1 ((sh.drop bg).take 1)) := (h.dropS (by omega)).takeS (by omega)
  have HRD : Hid (Row w (some ⟨b, off + (bg + 1), none⟩) (n + 1 - (bg + 1)) (sh.drop (bg + 1))) := h.dropS (by omega)
  have HPB := hide hB
  have HPN := hide hN
  have HPA := hide hA
  have HLN := hide h.len
  clear h hB hN hA
  have hf5 : bg ≤ 1000000 := by omega
  have hk5 : n + 1 - (bg + 1) ≤ 1000000 := by omega
  go_enter Tryz.func112, Tryz.ntmps112
  go_upto_if 15 with fail
  go_cut [5, 6] (fun s5 s6 wr => s5 = .int .i64 (bg : Nat) ∧ s6 = .int .i64 ((bg : Int) + 1) ∧ wr = (w.alloc (.cells #[.int .i64 0, .int .i64 0, .int .i64 0, .slice none 0 0] 133)))
  case first =>
    rcases hbg with ⟨rfl, rfl⟩ | ⟨rfl, rfl⟩
    · go_wp2
      all_goals (go_meet; case rel => exact ⟨rfl, by go_num, rfl⟩)
    · go_wp2
      all_goals (go_meet; case rel => exact ⟨rfl, by go_num, rfl⟩)
  case rest =>
    obtain ⟨rfl, rfl, rfl⟩ := hcut
    clear hbg
    go_upto_region 4 with fail
    go_cut [7, 8] (fun s7 s8 wr => s7 = .slice (some ⟨b, off, none⟩) bg c ∧ (∃ pb cb, s8 = .slice (some pb) (n + 1 - (bg + 1)) cb ∧ Hid (Row w (some pb) (n + 1 - (bg + 1)) (sh.drop (bg + 1)))) ∧ ∃ nq, wr = ((w.alloc (.cells #[.int .i64 0, .int .i64 0, .int .i64 0, .slice none 0 0] 133)).drewN nq))
    case first =>
      by_cases hc1 : c = bg + 1
      · subst hc1
        have hbn' : n = bg := by omega
        subst hbn'
        go_quiet (fail)
        go_wp2
        all_goals (go_meet; case rel => exact ⟨rfl, ⟨⟨b, off, none⟩, 0, by simp, Row.zeroS' (unhide HLN)⟩, _, rfl⟩)
      · have hc2 : bg + 1 < c := by omega
        clear hc1
        go_quiet (fail)
        go_wp2
        all_goals (go_meet; case rel => exact ⟨rfl, ⟨⟨b, off + (bg + 1), none⟩, c - (bg + 1), by simp, HRD⟩, _, rfl⟩)
    case rest =>
      obtain ⟨rfl, ⟨pb, cb, rfl, HRB⟩, nq, rfl⟩ := hcut
      clear HRD
      obtain ⟨kn, hkn⟩ : ∃ kn, n + 1 - (bg + 1) = kn := ⟨_, rfl⟩
      rw [hkn] at hk5 HRB ⊢
      have hcb : bg + 1 ≤ c := by omega
      have hcb2 : bg < c := by omega
      clear hkn
      go_upto_region 5 with fail
      obtain ⟨W0, hW0⟩ : ∃ W0, W0 = ((w.alloc (.cells #[.int .i64 0, .int .i64 0, .int .i64 0, .slice none 0 0] 133)).drewN nq) := ⟨_, rfl⟩
      have hK0 : Below w.heap.size w W0 := by rw [hW0]; exact Below.drewN ((Below.refl _ _).alloc (Nat.le_refl _) _) _
      have hz0 : W0.heap.size = w.heap.size + 1 := by rw [hW0]; simp
      have AB := hide (axis_box (w := w) (W0 := W0) (by rw [hW0]; exact heap_alloc_last w _))
      rw [← hW0]
      clear hW0
      go_region_held (fun wx => Below w.heap.size W0 wx) (first | (repeat (first | exact hKD.mono (by omega) | exact Below.refl _ _ | refine Below.drew ?_ | refine Below.setCell ?_ (by first | omega | (simp <;> omega)) _ | refine Below.alloc ?_ (by first | omega | (simp <;> omega)) _)))
        (first
        | (go_at_call_of 116 (Value.slice (some ⟨b, off, none⟩) bg c); refine (cellsOf_eq _ _ _ (sh.take bg) _ (by first | exact (unhide HRF).below (Nat.le_refl _) hK0.drew | exact (unhide HRF).below (Nat.le_refl _) (hK0.alloc (by omega) _).drew) (unhide HIF) _ HPB).mono ?_; rintro e wA ⟨rfl, rfl⟩)
        | (go_at_call_of 116 (Value.slice (some ⟨b, off + bg, none⟩) 1 (c - bg)); refine (cellsOf_eq _ _ _ ((sh.drop bg).take 1) _ (by first | exact (unhide HRM).below (Nat.le_refl _) hK0.drew | exact (unhide HRM).below (Nat.le_refl _) (hK0.alloc (by omega) _).drew) (unhide HIM) _ HPN).mono ?_; rintro e wA ⟨rfl, rfl⟩)
        | (go_at_call 116; refine (cellsOf_eq _ _ _ (sh.drop (bg + 1)) _ (by first | exact (unhide HRB).below (Nat.le_refl _) hK0.drew | exact (unhide HRB).below (Nat.le_refl _) (hK0.alloc (by omega) _).drew) (unhide HIB) _ HPA).mono ?_; rintro e wA ⟨rfl, rfl⟩)
        | (go_at_call 113; rw [← hz0]; refine (Concat2_any W0.heap.size _ _ _ _ _ _ (sh.take bg) (sh.drop (bg + 1)) _ (cell_of_row _ _ 0 _ _ (0, 0) (heap_alloc_last W0 _)) (cell_of_row _ _ 1 _ _ (0, 0) (heap_alloc_last W0 _)) ((unhide HRF).below (Nat.le_refl _) (hK0.alloc (by omega) _).drew) ((unhide HRB).below (Nat.le_refl _) (hK0.alloc (by omega) _).drew) hf5 hk5).mono ?_; rintro e wD ⟨oa, oc, rfl, hO, hbD⟩; have hKD : Below W0.heap.size W0 wD := ((Below.refl _ _).alloc (Nat.le_refl _) _).drew.trans (hbD.mono (by simp)); have HO := hide (hO.mono (B' := w.heap.size + 1) (by simp; omega)); obtain ⟨hwl, ⟨q0, q1, q2, q3⟩, f0, f1, f2, f3⟩ := unhide AB _ hKD; clear hbD hO))
      all_goals go_wp2
      all_goals refine bodyPost_ret (v := .agg #[.int .i64 B, .int .i64 N, .int .i64 A, .slice oa _ oc]) (by simp [results, Tryz.results112, go_sem, q0, q1, q2, q3]; try rfl) rfl ?_
      all_goals exact axis_end (unhide HO) (hK0.trans (hKD.mono (by omega)))

end Go.Proofs.YtgjpchnkodnieaaGreatDoor
