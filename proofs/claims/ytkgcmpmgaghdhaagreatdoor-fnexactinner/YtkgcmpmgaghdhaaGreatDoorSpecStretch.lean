import Derived.Test.YtkgcmpmgaghdhaaGreatDoorInnerMath
import Derived.Test.YtkgcmpmgaghdhaaGreatDoorSpecStage
import Derived.Test.YtkgcmpmgaghdhaaGreatDoorMFit0
import Derived.Deep.RegionLaw
import Derived.Deep.WholeRow
namespace Go.Proofs.YtkgcmpmgaghdhaaGreatDoor
open Go.RowKit

theorem vals_rep (x : Int) (n : Nat) : vals (fun _ => (x, 0)) n = List.replicate n x := by
  unfold vals
  rw [List.map_const']
  simp

set_option maxRecDepth 20000 in
set_option maxHeartbeats 4000000 in
theorem l4Stretch_any (c : Bool) (a1 a2 : Addr) (n1 n2 c1 c2 N : Nat) (sh dt : List Int) (w : World) (h1 : Row w (some a1) n1 sh) (h2 : Row w (some a2) n2 dt) (hc1 : n1 ≤ c1) (hN : N ≤ 10000) (hd : sh = [] → 0 < n2) :
    Calls Tryz.prog 86 #[.agg #[.bool c, .slice (some a1) n1 c1, .slice (some a2) n2 c2], .int .i64 (N : Nat)] w fun e w' => ∃ b1 m1 d1 b2 m2 d2, e = .returned (.agg #[.bool c, .slice (some b1) m1 d1, .slice (some b2) m2 d2]) ∧ Row w' (some b1) m1 (stSh N sh) ∧ Row w' (some b2) m2 (stDt N sh dt) ∧ m1 ≤ d1 ∧ Below w.heap.size w w' := by
  have hl1 := hide h1.len
  have hs1 := h1.small
  have hs2 := h2.small
  have H1 := hide h1
  have H2 := hide h2
  clear h1 h2
  by_cases hn0 : n1 = 0
  · subst hn0
    have hse : sh = [] := List.length_eq_zero_iff.mp (unhide hl1)
    subst hse
    have hdl := hd rfl
    clear hd
    obtain ⟨bb, ob, hab, hblt, hc⟩ := (unhide H2).get hdl
    cases hab
    rw [Nat.add_zero] at hc
    obtain ⟨x, hx⟩ : ∃ x, x = dt.getD 0 0 := ⟨_, rfl⟩
    rw [← hx] at hc
    have HX := hide hx
    clear hx
    obtain ⟨f, hf⟩ : ∃ f : Nat → Int × Int, f = fun _ => (x, 0) := ⟨_, rfl⟩
    have HF : Hid (∀ P, f P = (x, 0)) := fun P => by rw [hf]
    have HV : Hid (∀ P, vals f P = List.replicate P x) := fun P => by rw [hf]; exact vals_rep x P
    clear hf
    obtain ⟨W0, hW0⟩ : ∃ W0, W0 = (w.alloc (.cells #[.bool c, .slice (some a1) 0 c1, .slice (some ⟨bb, ob, none⟩) n2 c2] 25)).alloc (.cells #[.bool false, .slice none 0 0, .slice none 0 0] 25) := ⟨_, rfl⟩
    have hz0' : W0.heap.size = w.heap.size + 2 := by rw [hW0]; simp
    have D5 : Hid (Box W0 w.heap.size c (.slice (some a1) 0 c1) (.slice (some ⟨bb, ob, none⟩) n2 c2)) := by rw [hW0]; exact (Box.new _ _ _ _).alloc _
    have D6 : Hid (Box W0 (w.heap.size + 1) false (.slice none 0 0) (.slice none 0 0)) := by
      rw [hW0]
      have := Box.new (w.alloc (.cells #[.bool c, .slice (some a1) 0 c1, .slice (some ⟨bb, ob, none⟩) n2 c2] 25)) false (.slice none 0 0) (.slice none 0 0)
      show Box _ _ _ _ _
      simpa using this
    have hB0 : Hid (Below w.heap.size w W0) := by rw [hW0]; exact ((Below.refl _ _).alloc (Nat.le_refl _) _).alloc (by simp) _
    have hst0 : Hid (Stage W0 (w.heap.size + 4) c (some ⟨w.heap.size + 2, 0, none⟩) 1 1 [(N : Int)] f 0 (((W0.alloc (.cells #[.int .i64 (N : Nat)] 3)).alloc (.cells #[] 3)).alloc (.cells #[.bool c, .slice (some ⟨w.heap.size + 2, 0, none⟩) 1 1, .slice (some ⟨w.heap.size + 3, 0, none⟩) 0 0] 25)) (w.heap.size + 3) 0) := by
      have hb1 : Blk (W0.alloc (.cells #[.int .i64 (N : Nat)] 3)) (w.heap.size + 2) [(N : Int)] := by
        have := heap_alloc_last W0 (.cells #[.int .i64 (N : Nat)] 3)
        rw [hz0'] at this
        exact this
      have hb2 : Blk ((W0.alloc (.cells #[.int .i64 (N : Nat)] 3)).alloc (.cells #[] 3)) (w.heap.size + 3) [] := by
        have := Blk.new (W0.alloc (.cells #[.int .i64 (N : Nat)] 3))
        simp [hz0'] at this
        exact this
      refine Stage.start f ?_ (hb2.alloc _) (((hb1.own (n := 1) (B := W0.heap.size) rfl (by omega) (by omega)).alloc _).alloc _) ((((Below.refl _ _).alloc (Nat.le_refl _) _).alloc (by simp) _).alloc (by simp <;> omega) _) (by omega) (by omega) (fun k hk => by have := at_eq hk; omega)
      have := Box.new ((W0.alloc (.cells #[.int .i64 (N : Nat)] 3)).alloc (.cells #[] 3)) c (.slice (some ⟨w.heap.size + 2, 0, none⟩) 1 1) (.slice (some ⟨w.heap.size + 3, 0, none⟩) 0 0)
      simp [hz0'] at this
      exact this
    rw [hW0] at hst0
    obtain ⟨i0, hi, hz0, hz1, hz2⟩ := info_parts info_int
    go_enter Tryz.func86, Tryz.ntmps86
    go_wp2_with fail
    rw [← hW0] at hst0
    go_loopw [6] (fun i wr => ∃ P g cap, P ≤ N ∧ i = .int .i64 (P : Nat) ∧ Hid (Stage W0 (w.heap.size + 4) c (some ⟨w.heap.size + 2, 0, none⟩) 1 1 [(N : Int)] f P wr g cap)) (fun i _ => N - (intOf i).toNat)
    case atStart =>
      rw [hW0] at hst0 ⊢
      exact ⟨0, _, _, Nat.zero_le _, rfl, hst0⟩
    case round =>
      clear hst0
      obtain ⟨P, g, cap, hP, rfl, hst⟩ := hrel
      have hst' := unhide hst
      obtain ⟨y0, y1, y2, y3, y4, y5, y6⟩ := ((unhide D5).low (by omega) hst'.low).all
      obtain ⟨z0, z1, z2, z3, z4, z5, z6⟩ := hst'.box.all
      by_cases hlt : P < N
      · have hc' := (((unhide hB0).trans (hst'.low.mono (by omega))).cell (p := ⟨bb, ob, none⟩) hblt).trans hc
        clear hW0
        go_wp2_with fail
        go_region_law
          (first
            | (refine step_append_lies _ (by rfl) _ _ _ (by rfl) W0.heap.size 3 i0 _ 1 8 Tryz.underlying23 hi hz0 hz1 hz2 rfl (by omega) (.slice (some ⟨g, 0, none⟩) P cap) P ((vals f P).map (Value.int .i64)) (by rfl) (by first | exact (hst'.owns.alloc _).drew | exact hst'.drew.owns.alloc _) ⟨wr.heap.size, 0, none⟩ 1 1 [.int .i64 x] (by rfl) (by rfl) (by exact cells_new wr _) (one_one _) (by omega) (by unfold maxLen; omega) (by omega) (by have := hst'.low.size; simp; omega) (wr.heap.size + 1) (by simp) ?_; intro g' cap' w7 hown' hgrow hat hlt7; obtain ⟨hb7, hst7⟩ := hst'.drew.push _ (unhide HF P) hown' (by exact hgrow) hat; obtain ⟨t0, t1, t2, t3, t4, t5, t6⟩ := hb7.all))
        all_goals
          go_wp2_with fail
          go_roundw
          case rel => exact ⟨P + 1, g', cap', by omega, by go_num, hst7⟩
          case measure => simp [intOf]; omega
      · have hPN : P = N := by omega
        subst hPN
        obtain ⟨ad', cd, hv, hD⟩ := Own.of_owns hst'.owns (by omega)
        cases hv
        have G6 := hide ((unhide D6).low (by omega) hst'.low)
        obtain ⟨q0, q1, q2, q3, q4, q5, q6⟩ := (unhide G6).all
        have HW6 := hide ((unhide hB0).trans (hst'.low.mono (by omega)))
        have HO6 := hide hst'.own
        have HD := hide hD
        clear hst hst' hD hW0
        go_wp2
        refine bodyPost_ret (v := .agg #[.bool c, .slice (some ⟨w.heap.size + 2, 0, none⟩) 1 1, .slice (some ⟨g, 0, none⟩) P cap]) (by simp [results, Tryz.results86, go_sem, q0, q1, q2]) rfl ?_
        refine ⟨_, 1, 1, _, P, cap, rfl, ?_, ?_, Nat.le_refl _, (((unhide HW6).setCell (by simp) _).setCell (by simp) _).setCell (by simp) _⟩
        · exact (unhide HO6).row.sets (unhide G6) _ _ _
        · have e : stDt (P : Int) [] dt = vals f P := by rw [unhide HV P, unhide HX]; simp [stDt]
          rw [e]
          exact (unhide HD).row.sets (unhide G6) _ _ _
  · have hp : (0 : Int) < (n1 : Int) := by omega
    have hne : sh ≠ [] := fun e => hn0 (by rw [← unhide hl1, e]; rfl)
    have e1 : stSh N sh = sh := by simp [stSh, hne]
    have e2 : stDt N sh dt = dt := by simp [stDt, hne]
    rw [e1, e2]
    clear e1 e2 hd
    go_enter Tryz.func86, Tryz.ntmps86
    go_wp2
    refine bodyPost_ret (v := .agg #[.bool c, .slice (some a1) n1 c1, .slice (some a2) n2 c2]) (by simp [results, Tryz.results86, go_sem]) rfl ?_
    exact ⟨_, n1, c1, _, n2, c2, rfl, ((unhide H1).alloc _).alloc _, ((unhide H2).alloc _).alloc _, hc1, ((Below.refl _ _).alloc (Nat.le_refl _) _).alloc (by simp) _⟩

end Go.Proofs.YtkgcmpmgaghdhaaGreatDoor
