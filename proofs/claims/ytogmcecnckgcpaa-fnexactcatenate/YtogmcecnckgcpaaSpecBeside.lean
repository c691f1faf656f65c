import Derived.Test.YtogmcecnckgcpaaSpecTailB
import Derived.Test.YtogmcecnckgcpaaMStage
import Derived.Deep.DeepCutAuto
import Derived.Deep.RegionLaw
namespace Go.Proofs.Ytogmcecnckgcpaa
open Go.RowKit

theorem vals_const (x : Int) : ∀ n, vals (fun _ => (x, 0)) n = List.replicate n x := fun n => by
  induction n with
  | zero => rfl
  | succ n ih =>
    unfold vals at ih ⊢
    rw [List.range_succ, List.map_append, ih, List.replicate_succ']
    rfl

set_option maxRecDepth 20000 in
set_option maxHeartbeats 4000000 in
theorem l5Beside_any (c d : Bool) (s1 s2 : Option Addr) (l1 l2 q1' q2' bd od n2 c2 b1 o1 nf k1 : Nat) (x : Int) (sh : List Int) (N : Nat) (w : World) (hx : w.cell? ⟨bd, od, none⟩ = some (.int .i64 x)) (hbd : bd < w.heap.size) (hn2 : 0 < n2) (h1 : Row w (some ⟨b1, o1, none⟩) (nf + 1) sh) (hk1 : nf + 1 ≤ k1) (hnf : nf ≤ 10000) (hN : countOf (without sh false ++ [1]) = (N : Int)) (hNs : N ≤ 10000) :
    Calls Try.prog 54 #[.agg #[.bool c, .slice s1 l1 q1', .slice (some ⟨bd, od, none⟩) n2 c2], .agg #[.bool d, .slice (some ⟨b1, o1, none⟩) (nf + 1) k1, .slice s2 l2 q2']] w fun e w' => ∃ g1 csh g2 cd, (nf + 1 ≤ csh ∧ N ≤ cd) ∧ e = .returned (.agg #[.bool c, .slice (some ⟨g1, 0, none⟩) (nf + 1) csh, .slice (some ⟨g2, 0, none⟩) N cd]) ∧ Own w' w.heap.size (some ⟨g1, 0, none⟩) (nf + 1) (without sh false ++ [1]) ∧ Own w' w.heap.size (some ⟨g2, 0, none⟩) N (List.replicate N x) ∧ Below w.heap.size w w' := by
  obtain ⟨i0, hi, hz0, hz1, hz2⟩ := info_parts info_int
  obtain ⟨fr, hfr⟩ : ∃ fr, fr = without sh false := ⟨_, rfl⟩
  obtain ⟨f, hf⟩ : ∃ f : Nat → Int × Int, f = fun _ => (x, 0) := ⟨_, rfl⟩
  have HFP : Hid (∀ k, f k = (x, 0)) := by intro k; rw [hf]
  have HV : Hid (∀ k, vals f k = List.replicate k x) := by intro k; rw [hf]; exact vals_const x k
  rw [← hfr] at hN ⊢
  have HN := hide hN
  obtain ⟨W, hW⟩ : ∃ W, W = ((w.alloc (.cells #[.bool c, .slice s1 l1 q1', .slice (some ⟨bd, od, none⟩) n2 c2] 27)).alloc (.cells #[.bool d, .slice (some ⟨b1, o1, none⟩) (nf + 1) k1, .slice s2 l2 q2'] 27)).alloc (.cells #[.bool false, .slice none 0 0, .slice none 0 0] 27) := ⟨_, rfl⟩
  have hz : w.heap.size + 2 < W.heap.size := by rw [hW]; simp
  have HBW : Hid (Below w.heap.size w W) := by rw [hW]; exact (((Below.refl _ w).alloc (Nat.le_refl _) _).alloc (by simp) _).alloc (by simp <;> omega) _
  have HX0 : Hid (Box W w.heap.size c (.slice s1 l1 q1') (.slice (some ⟨bd, od, none⟩) n2 c2)) := by rw [hW]; exact ((Box.new w _ _ _).alloc _).alloc _
  have HX1 : Hid (Box W (w.heap.size + 1) d (.slice (some ⟨b1, o1, none⟩) (nf + 1) k1) (.slice s2 l2 q2')) := by rw [hW]; exact (boxAt _ _ _ _ _ (by simp)).alloc _
  have HX2 : Hid (Box W (w.heap.size + 2) false (.slice none 0 0) (.slice none 0 0)) := by rw [hW]; exact boxAt _ _ _ _ _ (by simp)
  have HC : Hid (∀ wx, Below W.heap.size W wx → Calls Try.prog 55 #[.slice (some ⟨b1, o1, none⟩) (nf + 1) k1, .bool false] wx fun e w' => ∃ a' cap', e = .returned (.slice a' nf cap') ∧ w'.ownsRow wx.heap.size 3 1 (.slice a' nf cap') nf (fr.map (Value.int .i64)) ∧ Below wx.heap.size wx w') := by
    intro wx hwx
    rw [hfr]
    exact l4Without_owns b1 o1 (nf + 1) k1 sh wx (h1.below (Nat.le_refl _) ((HBW.out).trans (hwx.mono HBW.out.size))) (by omega) hk1
  have HXC : Hid (∀ wx, Below W.heap.size W wx → wx.cell? ⟨bd, od, none⟩ = some (.int .i64 x)) := fun wx hwx => ((HBW.out.trans (hwx.mono HBW.out.size)).cell (p := ⟨bd, od, none⟩) hbd).trans hx
  have HW := hide hW
  clear hW h1 hf hfr hN hx
  go_enter Try.func54, Try.ntmps54
  go_upto_region 1 with fail
  rw [← HW.out]
  clear HW
  go_cut [5] (fun r wx => LaidT W c (nf + 1) (fr ++ [1]) r wx)
  case first =>
    refine regionTB _ W (by simp) w.heap.size (w.heap.size + 1) rfl rfl c (some ⟨b1, o1, none⟩) (nf + 1) k1 nf hnf fr (fun wx hwx => ⟨(HX0.out.below (Nat.le_refl _) hwx).cells.1, (HX1.out.below (Nat.le_refl _) hwx).cells.2.1⟩) HC.out (fun _ _ _ _ _ h => h) ?_
    intro z e pg pc m cv wx hL
    simp only [outTB, frTB, pt, if_true, Act.put, List.setIfInBounds_toArray, List.set_cons_zero, List.set_cons_succ]
    go_wp2_with fail
    go_meet
    case rel => exact hL
  case rest =>
    obtain ⟨w4, hw4⟩ : ∃ y, y = wc := ⟨_, rfl⟩
    subst hw4
    obtain ⟨p, g0, b5, csh, rfl, hbx, hblk, hO, hb4, hp, hg, hne, hcs⟩ := hcut
    have hst0 := hide (Stage.start f hbx hblk hO hb4 hp hg hne)
    obtain ⟨v0, v1, v2, v3, v4, v5, v6⟩ := hbx.all
    have HO4 := hide hO
    have hbw := HBW.out.size
    clear hbx hblk hO hb4 hg hne HC
    go_wp2_with (go_at_call 27; refine (l3Count_eq _ _ _ (fr ++ [1]) _ HO4.out.row _ HN).mono ?_; rintro e wq ⟨rfl, rfl⟩)
    go_loopw [7] (fun i wr => ∃ P g cap, P ≤ N ∧ i = .int .i64 (P : Nat) ∧ Hid (Stage W p c (some ⟨b5, 0, none⟩) (nf + 1) csh (fr ++ [1]) f P wr g cap)) (fun i _ => N - (intOf i).toNat)
    case atStart => exact ⟨0, g0, 0, Nat.zero_le _, rfl, hst0⟩
    case round =>
      obtain ⟨P, g, cap, hP, rfl, hst⟩ := hrel
      clear hst0 v0 v1 v2 v3 v4 v5 v6
      have hst' := unhide hst
      obtain ⟨z0, z1, z2, z3, z4, z5, z6⟩ := hst'.box.all
      by_cases hlt : P < N
      · obtain ⟨y0, y1, y2, y3, y4, y5, y6⟩ := (HX0.out.below (Nat.le_refl _) hst'.low).all
        have hc' := HXC.out _ hst'.low
        have hn0 : (0 : Int) < (n2 : Int) := by omega
        go_wp2_with fail
        go_region_law
          (first
            | (refine step_append_lies _ (by rfl) _ _ _ (by rfl) W.heap.size 3 i0 _ 1 8 Try.underlying22 hi hz0 hz1 hz2 rfl (by omega) (.slice (some ⟨g, 0, none⟩) P cap) P ((vals f P).map (Value.int .i64)) (by rfl) (by first | exact (hst'.owns.alloc _).drew | exact hst'.drew.owns.alloc _) ⟨wr.heap.size, 0, none⟩ 1 1 [.int .i64 x] (by rfl) (by rfl) (by exact cells_new wr _) (one_one _) (by omega) (by unfold maxLen; omega) (by omega) (by have := hst'.low.size; simp; omega) (wr.heap.size + 1) (by simp) ?_; intro g' cap' w7 hown' hgrow hat hlt7; obtain ⟨hb7, hst7⟩ := hst'.drew.push _ (HFP.out P) hown' (by exact hgrow) hat; obtain ⟨t0, t1, t2, t3, t4, t5, t6⟩ := hb7.all))
        all_goals
          go_wp2_with fail
          go_roundw
          case rel => exact ⟨P + 1, g', cap', by omega, by go_num, hst7⟩
          case measure => simp [intOf]; omega
      · have hPB : P = N := by omega
        subst hPB
        obtain ⟨ad', cd, hv, hD⟩ := Own.of_owns hst'.owns (by omega)
        cases hv
        have G6 := hide (HX2.out.below (Nat.le_refl _) hst'.low)
        obtain ⟨q0, q1, q2, q3, q4, q5, q6⟩ := (unhide G6).all
        have HW6 := hide (HBW.out.trans (hst'.low.mono hbw))
        have HO6 := hide hst'.own
        have hPc := owns_cap hst'.owns
        rw [HV.out] at hD
        have HD := hide hD
        clear hst hst' hD
        go_wp2
        refine bodyPost_ret (v := .agg #[.bool c, .slice (some ⟨b5, 0, none⟩) (nf + 1) csh, .slice (some ⟨g, 0, none⟩) P cap]) (by simp [results, Try.results54, go_sem, q0, q1, q2]) rfl ?_
        have n1 : ∀ k, At (some ⟨b5, 0, none⟩) (nf + 1) k → k ≠ w.heap.size + 2 := fun k hk => (unhide HO6).row.notBox (unhide G6) hk
        have n2 : ∀ k, At (some ⟨g, 0, none⟩) P k → k ≠ w.heap.size + 2 := fun k hk => (unhide HD).row.notBox (unhide G6) hk
        refine ⟨b5, csh, g, cap, ⟨hcs, hPc⟩, rfl, ?_, ?_, (((unhide HW6).setCell (by simp <;> omega) _).setCell (by simp <;> omega) _).setCell (by simp <;> omega) _⟩
        · exact (((((unhide HO6).mono hbw).other (q := ⟨w.heap.size + 2, 0, none⟩) n1 _).other (q := ⟨w.heap.size + 2, 1, none⟩) n1 _).other (q := ⟨w.heap.size + 2, 2, none⟩) n1 _)
        · exact (((((unhide HD).mono hbw).other (q := ⟨w.heap.size + 2, 0, none⟩) n2 _).other (q := ⟨w.heap.size + 2, 1, none⟩) n2 _).other (q := ⟨w.heap.size + 2, 2, none⟩) n2 _)

end Go.Proofs.Ytogmcecnckgcpaa
