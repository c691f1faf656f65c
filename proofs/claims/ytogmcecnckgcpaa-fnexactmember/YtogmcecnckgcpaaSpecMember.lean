import Derived.Test.YtogmcecnckgcpaaSpecMemR
import Derived.Test.YtogmcecnckgcpaaSpecNone
import Derived.Test.YtogmcecnckgcpaaProdMath
import Derived.Test.YtogmcecnckgcpaaSpecStage
import Derived.Deep.DeepCutAuto
namespace Go.Proofs.Ytogmcecnckgcpaa
open Go.RowKit

theorem member_bad1 {c d : Bool} {sh dt sh' dt' : List Int} (h : arrOk c sh dt = false) : member c d sh dt sh' dt' = noAns 3 := by unfold member; rw [if_neg (by simp [h])]
theorem member_bad2 {c d : Bool} {sh dt sh' dt' : List Int} (h : arrOk d sh' dt' = false) : member c d sh dt sh' dt' = noAns 3 := by unfold member; rw [if_neg (by simp [h])]
theorem member_go {c d : Bool} {sh dt sh' dt' : List Int} (h1 : arrOk c sh dt = true) (h2 : arrOk d sh' dt' = true) : member c d sh dt sh' dt' = gatherAns false sh (fun k => (truth (decide (firstOf d dt' (dt.getD k 0) c < dt'.length)), 0)) dt.length := by unfold member; rw [if_pos ⟨h1, h2⟩]

theorem mem_cell {w w1 : World} {g b o : Nat} (ob : Obj) (hg : (w.alloc ob).grownBy w1 (some g)) (hb : b < w.heap.size) (hne : b ≠ g) : w1.cell? ⟨b, o, none⟩ = w.cell? ⟨b, o, none⟩ :=
  World.cell?_of_block (w := w) (a := ⟨b, o, none⟩) ((hg.block b (by simp; omega) (fun e => by cases e; exact hne rfl)).trans (Below.heap_alloc w ob b hb))

set_option maxRecDepth 20000 in
set_option maxHeartbeats 8000000 in
theorem Member_any (c d : Bool) (a1 a2 b1 b2 : Addr) (n1 n2 m1 m2 c1 c2 d1 d2 : Nat) (sh dt sh' dt' : List Int) (w : World) (h1 : Row w (some a1) n1 sh) (h2 : Row w (some a2) n2 dt) (k1 : Row w (some b1) m1 sh') (k2 : Row w (some b2) m2 dt') :
    Calls Try.prog 20 #[.agg #[.bool c, .slice (some a1) n1 c1, .slice (some a2) n2 c2], .agg #[.bool d, .slice (some b1) m1 d1, .slice (some b2) m2 d2]] w (GivesRow w (member c d sh dt sh' dt')) := by
  have hl1 := hide h1.len
  have hl2 := hide h2.len
  have hl3 := hide k1.len
  have hl4 := hide k2.len
  have hs1 := h1.small
  have hs2 := h2.small
  have hs3 := k1.small
  have hs4 := k2.small
  have H1 := hide h1
  have H2 := hide h2
  have K1 := hide k1
  have K2 := hide k2
  clear h1 h2 k1 k2
  obtain ⟨r1, hr1⟩ : ∃ r, arrOk c sh dt = r := ⟨_, rfl⟩
  obtain ⟨r2, hr2⟩ : ∃ r, arrOk d sh' dt' = r := ⟨_, rfl⟩
  have HR1 := hide hr1
  have HR2 := hide hr2
  clear hr1 hr2
  go_enter Try.func20, Try.ntmps20
  go_wp2_with fail
  refine (ArrayOk_eq _ _ _ _ _ _ _ sh dt _ ((((unhide H1).alloc _).alloc _).alloc _) ((((unhide H2).alloc _).alloc _).alloc _) _ HR1).mono ?_
  rintro e w1 ⟨rfl, hb1⟩
  obtain ⟨B4, B5, B6, hB1⟩ := boxes3 hb1
  have hz1 := B6.lt
  clear hb1
  obtain ⟨x0, x1, x2, x3, x4, x5, x6⟩ := B4.all
  obtain ⟨y0, y1, y2, y3, y4, y5, y6⟩ := B5.all
  cases r1 with
  | false =>
    have HS : Hid (member c d sh dt sh' dt' = noAns 3) := member_bad1 (unhide HR1)
    go_wp2_with fail
    refine (l4None_any _).mono ?_
    rintro e w9 ⟨rfl, hb9⟩
    obtain ⟨q0, q1, q2, q3, q4, q5, q6⟩ := ((B6).below (Nat.le_refl _) hb9).all
    have hB9 := hide ((hB1).trans (hb9.mono (hB1).size))
    clear hb9 hB1 B4 B5 B6 hz1 x0 x1 x2 x3 x4 x5 x6 y0 y1 y2 y3 y4 y5 y6
    go_wp2
    refine bodyPost_ret (v := .tuple #[.agg #[.bool false, .slice none 0 0, .slice none 0 0], .int .i64 3]) (by simp [results, Try.results20, go_sem, q0, q1, q2]) rfl ?_
    rw [unhide HS]
    exact ⟨none, 0, 0, none, 0, 0, rfl, row_nil _ _, row_nil _ _, (((unhide hB9).setCell (by simp <;> omega) _).setCell (by simp <;> omega) _).setCell (by simp <;> omega) _⟩
  | true =>
    go_wp2_with fail
    refine (ArrayOk_eq _ _ _ _ _ _ _ sh' dt' _ ((unhide K1).below (Nat.le_refl _) hB1) ((unhide K2).below (Nat.le_refl _) hB1) _ HR2).mono ?_
    rintro e w2 ⟨rfl, hb2⟩
    have C4 := hide (B4.below (Nat.le_refl _) hb2)
    have C5 := hide (B5.below (Nat.le_refl _) hb2)
    have C6 := hide (B6.below (Nat.le_refl _) hb2)
    have hB2 := hide (hB1.trans (hb2.mono hB1.size))
    clear hb2 hB1 B4 B5 B6 hz1 x0 x1 x2 x3 x4 x5 x6 y0 y1 y2 y3 y4 y5 y6 w1
    cases r2 with
    | false =>
      have HS : Hid (member c d sh dt sh' dt' = noAns 3) := member_bad2 (unhide HR2)
      go_wp2_with fail
      refine (l4None_any _).mono ?_
      rintro e w9 ⟨rfl, hb9⟩
      obtain ⟨q0, q1, q2, q3, q4, q5, q6⟩ := ((unhide C6).below (Nat.le_refl _) hb9).all
      have hB9 := hide ((unhide hB2).trans (hb9.mono (unhide hB2).size))
      clear hb9 C4 C5 C6 hB2
      go_wp2
      refine bodyPost_ret (v := .tuple #[.agg #[.bool false, .slice none 0 0, .slice none 0 0], .int .i64 3]) (by simp [results, Try.results20, go_sem, q0, q1, q2]) rfl ?_
      rw [unhide HS]
      exact ⟨none, 0, 0, none, 0, 0, rfl, row_nil _ _, row_nil _ _, (((unhide hB9).setCell (by simp <;> omega) _).setCell (by simp <;> omega) _).setCell (by simp <;> omega) _⟩
    | true =>
      obtain ⟨x0, x1, x2, x3, x4, x5, x6⟩ := (unhide C4).all
      obtain ⟨y0, y1, y2, y3, y4, y5, y6⟩ := (unhide C5).all
      obtain ⟨f, hf⟩ : ∃ f : Nat → Int × Int, f = fun k => (truth (decide (firstOf d dt' (dt.getD k 0) c < dt'.length)), 0) := ⟨_, rfl⟩
      have HGO : Hid (member c d sh dt sh' dt' = gatherAns false sh f n2) := by
        show _ = _
        rw [member_go (unhide HR1) (unhide HR2), hf, unhide hl2]
      have HFK : Hid (∀ k, f k = (truth (decide (firstOf d dt' (dt.getD k 0) c < dt'.length)), 0)) := by intro k; rw [hf]
      obtain ⟨_, pr1, _⟩ := shapeIn_of (unhide HR1)
      have hbd1 := (shapeIn_of (unhide HR1)).1.bd
      rw [pr1, unhide hl2] at hbd1
      have hn2b : n2 ≤ 10000 := by omega
      clear hf pr1 hbd1
      go_wp2_with fail
      refine (l3Ints_any _ _ _ sh _ ((unhide H1).below (Nat.le_refl _) (unhide hB2))).mono ?_
      rintro e w3 ⟨ash, csh, rfl, hOJ, hb3⟩
      have hlaid := laid_cbz (c := false) (csh := csh) hOJ hb3
      obtain ⟨p, g0, ash', csh', e1, hbx, hblk, hO, hb4, hp, hg, hne⟩ := hlaid
      have hpe : p = w3.heap.size + 1 := by simpa using e1.symm
      subst hpe
      have hst0 := hide (Stage.start f hbx hblk hO hb4 hp hg hne)
      have hB2z := (unhide hB2).size
      have hz4 := (unhide C4).lt
      have hz5 := (unhide C5).lt
      have hz6' := (unhide C6).lt
      clear e1 hbx hblk hO hb4 hg hne hOJ hb3 x0 x1 x2 x3 x4 x5 x6 y0 y1 y2 y3 y4 y5 y6
      go_wp2_with fail
      go_loopw [7] (fun i wr => ∃ P g cap, P ≤ n2 ∧ i = .int .i64 (P : Nat) ∧ Hid (Stage w2 (w3.heap.size + 1) false ash' n1 csh' sh f P wr g cap)) (fun i _ => n2 - (intOf i).toNat)
      case atStart => exact ⟨0, g0, 0, Nat.zero_le _, rfl, hst0⟩
      case round =>
        obtain ⟨P, g, cap, hP, rfl, hst⟩ := hrel
        clear hst0
        have hA : Box wr w.heap.size c (.slice (some a1) n1 c1) (.slice (some a2) n2 c2) := (unhide C4).low hz4 (unhide hst).low
        have hBb : Box wr (w.heap.size + 1) d (.slice (some b1) m1 d1) (.slice (some b2) m2 d2) := (unhide C5).low hz5 (unhide hst).low
        have HWy := hide ((unhide hB2).trans ((unhide hst).low.mono hB2z))
        by_cases hlt : P < n2
        · obtain ⟨bd, od, hab, hblt, hc⟩ := (unhide H2).get hlt
          cases hab
          have hc' := ((unhide HWy).cell (p := ⟨bd, od + P, none⟩) hblt).trans hc
          obtain ⟨x, hx⟩ : ∃ x, x = dt.getD P 0 := ⟨_, rfl⟩
          rw [← hx] at hc'
          obtain ⟨q, hq⟩ : ∃ q : Nat, firstOf d dt' x c = q := ⟨_, rfl⟩
          obtain ⟨r, hr⟩ : ∃ r, decide (q < m2) = r := ⟨_, rfl⟩
          have HFP : Hid (f P = (truth r, 0)) := by show _ = _; rw [unhide HFK P, ← hx, hq, unhide hl4, hr]
          have hst' := unhide hst
          have hwl := (unhide HWy).size
          have hbdl : bd < wr.heap.size := by omega
          have hgw : w2.heap.size ≤ g := by
            rcases hst'.owns.2 with ⟨hv, _⟩ | ⟨g', cp, cur, hv, hbg, _⟩
            · simp at hv
            · simp at hv; omega
          have HKK : Hid (∀ wx, Below wr.heap.size wr wx → wx.cell? ⟨w3.heap.size + 1, 2, none⟩ = some (.slice (some ⟨g, 0, none⟩) P cap) ∧ wx.frozen? ⟨w3.heap.size + 1, 2, none⟩ = false ∧ wx.cell? ⟨w.heap.size + 1, 0, none⟩ = some (.bool d) ∧ wx.cell? ⟨w.heap.size + 1, 1, none⟩ = some (.slice (some b1) m1 d1) ∧ wx.cell? ⟨w.heap.size + 1, 2, none⟩ = some (.slice (some b2) m2 d2) ∧ wx.cell? ⟨w.heap.size, 2, none⟩ = some (.slice (some ⟨bd, od, none⟩) n2 c2) ∧ wx.cell? ⟨w.heap.size, 0, none⟩ = some (.bool c) ∧ wx.cell? ⟨bd, od + P, none⟩ = some (.int .i64 x)) := fun wx hwx => by
            obtain ⟨b0, b1', b2', _⟩ := (hBb.below (Nat.le_refl _) hwx).all
            obtain ⟨a0, _, a2', _⟩ := (hA.below (Nat.le_refl _) hwx).all
            exact ⟨(hst'.box.below (Nat.le_refl _) hwx).all.2.2.1, (hst'.box.below (Nat.le_refl _) hwx).free _, b0, b1', b2', a2', a0, (hwx.cell (p := ⟨bd, od + P, none⟩) hbdl).trans hc'⟩
          have HCC : Hid (∀ wx, Below wr.heap.size wr wx → Calls Try.prog 38 #[.agg #[.bool d, .slice (some b1) m1 d1, .slice (some b2) m2 d2], .int .i64 x, .bool c] wx fun e w' => e = .returned (.int .i64 (q : Nat)) ∧ Below wx.heap.size wx w') := fun wx hwx => by
            rw [← hq]
            exact l6First_any d c _ _ m2 _ dt' x wx (((unhide K2).below (Nat.le_refl _) (unhide HWy)).below (Nat.le_refl _) hwx)
          have HAA : Hid (∀ wx w7, Below wr.heap.size wr wx → (wx.alloc (.cells #[.int .i64 (truth r)] 3)).grownBy w7 (some g) → w7.cell? ⟨w3.heap.size + 1, 2, none⟩ = some (.slice (some ⟨g, 0, none⟩) P cap) ∧ w7.frozen? ⟨w3.heap.size + 1, 2, none⟩ = false ∧ w7.cell? ⟨w.heap.size + 1, 0, none⟩ = some (.bool d) ∧ w7.cell? ⟨w.heap.size + 1, 1, none⟩ = some (.slice (some b1) m1 d1) ∧ w7.cell? ⟨w.heap.size + 1, 2, none⟩ = some (.slice (some b2) m2 d2) ∧ w7.cell? ⟨w.heap.size, 2, none⟩ = some (.slice (some ⟨bd, od, none⟩) n2 c2) ∧ w7.cell? ⟨w.heap.size, 0, none⟩ = some (.bool c) ∧ w7.cell? ⟨bd, od + P, none⟩ = some (.int .i64 x)) := fun wx w7 hwx hg => by
            have ho := owns_below hst'.owns (Nat.le_refl _) hwx
            have q1 := (hst'.box.below (Nat.le_refl _) hwx).grown ho _ hg
            have q2 := (hBb.below (Nat.le_refl _) hwx).grown ho _ hg
            have q3 := (hA.below (Nat.le_refl _) hwx).grown ho _ hg
            exact ⟨q1.all.2.2.1, q1.free _, q2.all.1, q2.all.2.1, q2.all.2.2.1, q3.all.2.2.1, q3.all.1, (mem_cell _ hg (Nat.lt_of_lt_of_le hbdl hwx.size) (by omega)).trans ((hwx.cell (p := ⟨bd, od + P, none⟩) hbdl).trans hc')⟩
          have HR := hide hr
          have HST := hide hst'
          have hbase := hst'.low.size
          clear hx hq hr hst' hc hc'
          obtain ⟨y0, y1, y2, y3, y4, y5, y6⟩ := hA.all
          go_upto_region 7 with fail
          clear y0 y1 y2 y3 y4 y5 y6
          refine regionM _ wr (by simp) (w3.heap.size + 1) w.heap.size (w.heap.size + 1) rfl rfl rfl c d (some b1) (some b2) g P cap bd od n2 c2 m1 d1 m2 d2 rfl ((vals f P).map (Value.int .i64)) x w2.heap.size q r HR.out hlt (by omega) (fun wx => wx.cell? ⟨w3.heap.size + 1, 2, none⟩ = some (.slice (some ⟨g, 0, none⟩) P cap) ∧ wx.frozen? ⟨w3.heap.size + 1, 2, none⟩ = false ∧ wx.cell? ⟨w.heap.size + 1, 0, none⟩ = some (.bool d) ∧ wx.cell? ⟨w.heap.size + 1, 1, none⟩ = some (.slice (some b1) m1 d1) ∧ wx.cell? ⟨w.heap.size + 1, 2, none⟩ = some (.slice (some b2) m2 d2) ∧ wx.cell? ⟨w.heap.size, 2, none⟩ = some (.slice (some ⟨bd, od, none⟩) n2 c2) ∧ wx.cell? ⟨w.heap.size, 0, none⟩ = some (.bool c) ∧ wx.cell? ⟨bd, od + P, none⟩ = some (.int .i64 x)) (fun _ h => h) HKK.out HCC.out HST.out.owns hbase HAA.out (fun _ _ _ _ _ h => h) ?_
          intro wx g' cap' w7 hbx hown7 hgrow hat
          simp only [outM, Act.put, List.setIfInBounds_toArray, List.set_cons_zero, List.set_cons_succ]
          obtain ⟨hb7, hst7⟩ := (HST.out.below hbx).push _ HFP.out hown7 hgrow hat
          clear hb7 hown7 hgrow hat hbx
          go_wp2_with fail
          go_roundw
          case rel => exact ⟨P + 1, g', cap', by omega, by go_num, hst7⟩
          case measure => simp [intOf]; omega
        · have hPB : P = n2 := by omega
          subst hPB
          have HS : Hid (member c d sh dt sh' dt' = ⟨false, sh, vals f P, 0⟩) := (unhide HGO).trans (gather_good (unhide hst).code)
          obtain ⟨ad', cd, hv, hD⟩ := Own.of_owns (unhide hst).owns (by omega)
          cases hv
          obtain ⟨y0, y1, y2, y3, y4, y5, y6⟩ := hA.all
          obtain ⟨z0, z1, z2, z3, z4, z5, z6⟩ := (unhide hst).box.all
          have G6 := hide ((unhide C6).low hz6' (unhide hst).low)
          obtain ⟨q0, q1, q2, q3, q4, q5, q6⟩ := (unhide G6).all
          have HW6 := hide ((unhide hB2).trans ((unhide hst).low.mono hB2z))
          have HO6 := hide (unhide hst).own
          have HD := hide hD
          clear hst hD HGO HFK HWy hA hBb
          go_wp2
          refine bodyPost_ret (v := .tuple #[.agg #[.bool false, .slice ash' n1 csh', .slice (some ⟨g, 0, none⟩) P cap], .int .i64 0]) (by simp [results, Try.results20, go_sem, q0, q1, q2]) rfl ?_
          rw [unhide HS]
          refine ⟨ash', n1, csh', some ⟨g, 0, none⟩, P, cap, rfl, ?_, ?_, (((unhide HW6).setCell (by simp <;> omega) _).setCell (by simp <;> omega) _).setCell (by simp <;> omega) _⟩
          · exact (unhide HO6).row.sets (unhide G6) _ _ _
          · exact (unhide HD).row.sets (unhide G6) _ _ _

end Go.Proofs.Ytogmcecnckgcpaa
