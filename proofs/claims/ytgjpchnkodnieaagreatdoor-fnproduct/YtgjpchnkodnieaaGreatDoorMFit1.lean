import Derived.Test.YtgjpchnkodnieaaGreatDoorMFit0
import Derived.Test.YtgjpchnkodnieaaGreatDoorMFit0
import Derived.Deep.RegionLaw
import Derived.Deep.AppendLies
import Derived.Deep.DeepCutAuto
import Derived.Laws.OwnMore
import Derived.Laws.AppendOwnNone
import Derived.RangeFuncRecord
import Derived.Deep.RegionHeld3
import Derived.OrdersHeld
import Derived.RegionTactic
import Derived.WalkKit
import Derived.Deep.QuietTactic
import Derived.BigQuiet
import Derived.Deep.RegionHeld
namespace Go.Proofs.YtgjpchnkodnieaaGreatDoor
open Go.RowKit

/-- A list of N numbers is drawn. -/
def DrawnN (pr N : Nat) (w : World) (e : Ending) (w' : World) : Prop := (∃ (c : Bool) (a1 a2 : Addr) (n1 c1 c2 : Nat) (sh dt : List Int), e = .returned (.agg #[.bool c, .slice (some a1) n1 c1, .slice (some a2) N c2]) ∧ Own w' w.heap.size (some a1) n1 sh ∧ Own w' w.heap.size (some a2) N dt ∧ n1 ≤ 6) ∧ RdOk w' pr ∧ But (fun x => x = pr) w w'

theorem DrawnN.below {pr N : Nat} {w w' w'' : World} {e : Ending} (h : DrawnN pr N w e w') (hb : Below w'.heap.size w' w'') : DrawnN pr N w e w'' := by
  obtain ⟨⟨c, a1, a2, n1, c1, c2, sh, dt, he, o1, o2, l1⟩, hr, hbt⟩ := h
  exact ⟨⟨c, a1, a2, n1, c1, c2, sh, dt, he, o1.below (Nat.le_refl _) hb, o2.below (Nat.le_refl _) hb, l1⟩, hr.below hb, (hbt.trans (T := fun x => x = pr) (But.of_below hb)).mono (by rintro x (h | h) <;> exact h)⟩

theorem drawnN_end {w wx : World} {pr p0 : Nat} {c k : Bool} {s1 s2 : Option Addr} {l1 l2 k1 k2 : Nat} {a1 a2 : Addr} {n1 n2 c1 c2 : Nat} {sh dt : List Int} (hp : Box wx p0 c (.slice s1 l1 k1) (.slice s2 l2 k2)) (hp0 : w.heap.size ≤ p0) (o1 : Own wx w.heap.size (some a1) n1 sh) (o2 : Own wx w.heap.size (some a2) n2 dt) (h1 : n1 ≤ 6) (hr : RdOk wx pr) (hpr : pr < w.heap.size) (hb : But (fun x => x = pr) w wx) :
    DrawnN pr n2 w (.returned (.agg #[.bool k, .slice (some a1) n1 c1, .slice (some a2) n2 c2])) (((wx.setCell ⟨p0, 0, none⟩ (.bool k)).setCell ⟨p0, 1, none⟩ (.slice (some a1) n1 c1)).setCell ⟨p0, 2, none⟩ (.slice (some a2) n2 c2)) := by
  have hs : But (fun x => x = p0) wx (((wx.setCell ⟨p0, 0, none⟩ (.bool k)).setCell ⟨p0, 1, none⟩ (.slice (some a1) n1 c1)).setCell ⟨p0, 2, none⟩ (.slice (some a2) n2 c2)) := (((But.refl (fun x => x = p0) wx).setCell (p := ⟨p0, 0, none⟩) rfl _).setCell (p := ⟨p0, 1, none⟩) rfl _).setCell (p := ⟨p0, 2, none⟩) rfl _
  have hn1 : ∀ x, x = p0 → ¬ At (some a1) n1 x := fun x e hk => (o1.row.notBox hp hk) e
  have hn2 : ∀ x, x = p0 → ¬ At (some a2) n2 x := fun x e hk => (o2.row.notBox hp hk) e
  exact ⟨⟨k, a1, a2, n1, c1, c2, sh, dt, rfl, hs.own o1 hn1, hs.own o2 hn2, h1⟩, hr.but hs (by rintro x rfl; omega), ((hb.setNew (p := ⟨p0, 0, none⟩) hp0 _).setNew (p := ⟨p0, 1, none⟩) hp0 _).setNew (p := ⟨p0, 2, none⟩) hp0 _⟩

set_option maxRecDepth 20000 in
set_option maxHeartbeats 8000000 in
theorem l5Small_any (pr N : Nat) (hN : N ≤ 10000) (w : World) (h : RdOk w pr) :
    Calls Tryz.prog 135 #[.pointer (some ⟨pr, 0, none⟩), .int .i64 (N : Nat)] w (DrawnN pr N w) := by
  have hlw := h.lt
  obtain ⟨i0, hi, hz0, hz1, hz2⟩ := info_parts info_int
  have hb0 : Below w.heap.size w (w.alloc (.cells #[.bool false, .slice none 0 0, .slice none 0 0] 25)) := (Below.refl _ w).alloc (Nat.le_refl _) _
  have HP0 : Hid (Box (w.alloc (.cells #[.bool false, .slice none 0 0, .slice none 0 0] 25)) w.heap.size false (.slice none 0 0) (.slice none 0 0)) := Box.new w _ _ _
  have HB0 : Hid (But (fun x => x = pr) w (w.alloc (.cells #[.bool false, .slice none 0 0, .slice none 0 0] 25))) := But.of_below hb0
  have hcall := next_any pr _ (h.below hb0)
  clear h hb0
  go_enter Tryz.func135, Tryz.ntmps135
  go_upto_region 3 with (go_at_call 45; refine hcall.mono ?_; rintro e w1 ⟨⟨k, hk, rfl⟩, hr1, hb1⟩; have HR1 := hide hr1; have HB1' := hide hb1; clear hr1 hb1)
  clear hcall
  have HP1 := hide ((unhide HP0).but (unhide HB1') (by show ¬ w.heap.size = pr; omega))
  have HB1 : Hid (But (fun x => x = pr) w w1) := ((unhide HB0).trans (unhide HB1')).mono (by rintro x (h | h) <;> exact h)
  have hw1 := (unhide HP1).lt
  clear HP0 HB0 HB1'
  obtain ⟨W, hW⟩ : ∃ W, W = ((w1.alloc (.cells #[.int .i64 (N : Nat)] 3)).alloc (.cells #[] 3)).alloc (.cells #[.bool false, .slice (some ⟨w1.heap.size, 0, none⟩) 1 1, .slice (some ⟨w1.heap.size + 1, 0, none⟩) 0 0] 25) := ⟨_, rfl⟩
  have hKW : Below w1.heap.size w1 W := by rw [hW]; exact (((Below.refl _ _).alloc (Nat.le_refl _) _).alloc (by simp) _).alloc (by simp; omega) _
  have HS : Hid (Own W w.heap.size (some ⟨w1.heap.size, 0, none⟩) 1 [(N : Int)]) := by
    rw [hW]
    refine Blk.own (zs := [(N : Int)]) ?_ rfl (by omega) (by omega)
    exact (Blk.alloc (Blk.alloc (show Blk (w1.alloc (.cells #[.int .i64 (N : Nat)] 3)) w1.heap.size [(N : Int)] from (by show (w1.heap.push _)[w1.heap.size]? = _; simp)) _) _)
  have HD : Hid (DG w pr w.heap.size (w1.heap.size + 1 + 1) false (.slice (some ⟨w1.heap.size, 0, none⟩) 1 1) W [] 0 (w1.heap.size + 1) 0) := by
    have b2 : Box W (w1.heap.size + 1 + 1) false (.slice (some ⟨w1.heap.size, 0, none⟩) 1 1) (.slice (some ⟨w1.heap.size + 1, 0, none⟩) 0 0) := by
      rw [hW]
      have := Box.new ((w1.alloc (.cells #[.int .i64 (N : Nat)] 3)).alloc (.cells #[] 3)) false (.slice (some ⟨w1.heap.size, 0, none⟩) 1 1) (.slice (some ⟨w1.heap.size + 1, 0, none⟩) 0 0)
      rw [World.size_alloc, World.size_alloc] at this
      exact this
    have b3 : Blk W (w1.heap.size + 1) [] := by
      rw [hW]
      have := Blk.new (w1.alloc (.cells #[.int .i64 (N : Nat)] 3))
      rw [World.size_alloc] at this
      exact this.alloc _
    exact ⟨b2, b3.owns (by omega), (unhide HP1).below (Nat.le_refl _) hKW, (unhide HR1).below hKW, ((unhide HB1).trans (T := fun x => x = pr) (But.of_below hKW)).mono (by rintro x (h | h) <;> exact h), Nat.le_refl _, by omega, hlw⟩
  rw [← hW]
  clear hW HR1 HP1
  obtain ⟨gs, hgs⟩ : ∃ g, g = w1.heap.size := ⟨_, rfl⟩
  rw [← hgs] at HD HS ⊢
  have hgw : w.heap.size < gs := by omega
  clear hgs HB1 hw1 hKW
  have hg0 : gs + 1 ≠ gs := by omega
  have hp7g : gs + 1 + 1 ≠ gs := by omega
  have hp7r : gs + 1 + 1 ≠ pr := by omega
  have hp7w : gs + 1 + 1 ≠ w.heap.size := by omega
  generalize gs + 1 + 1 = p7 at *
  generalize gs + 1 = g0 at *
  go_wp2_with fail
  go_loopw [7] (fun i wr => ∃ (n g cap : Nat) (l : List Int), n ≤ N ∧ i = .int .i64 (n : Nat) ∧ Hid (g ≠ gs) ∧ Hid (DG w pr w.heap.size p7 false (.slice (some ⟨gs, 0, none⟩) 1 1) wr l n g cap) ∧ Hid (Own wr w.heap.size (some ⟨gs, 0, none⟩) 1 [(N : Int)])) (fun i _ => N - (intOf i).toNat)
  case atStart => exact ⟨0, g0, 0, [], Nat.zero_le _, rfl, hide hg0, HD, HS⟩
  case round =>
    clear HD HS
    obtain ⟨n, g, cap, l, hn, rfl, hgn, hd, hs⟩ := hrel
    by_cases hlt : n < N
    · have hnz : (n : Int) < (N : Int) := by omega
      have HC := hide (next_any pr wr.drew ((unhide hd).rd.below (Below.refl _ _).drew))
      have HDD := hide ((unhide hd).below (Below.refl _ _).drew)
      have HSD := hide ((unhide hs).below (Nat.le_refl _) (Below.refl _ _).drew)
      obtain ⟨y0, y1, y2, y3, y4, y5, y6⟩ := (unhide HDD).box.all
      have h7 := (unhide hd).h7
      clear hd hs
      go_wp2_with fail
      go_region_law (first | (refine step_append_lies _ (by rfl) _ _ _ (by rfl) w.heap.size 3 i0 _ 1 8 Tryz.underlying23 hi hz0 hz1 hz2 rfl (by omega) (.slice (some ⟨g, 0, none⟩) n cap) n (l.map (Value.int .i64)) (by rfl) (by exact owns_below (unhide HD2).owns (Nat.le_refl _) ((Below.refl _ _).alloc (Nat.le_refl _) _)) ⟨w2.heap.size, 0, none⟩ 1 1 [.int .i64 ((j9 : Int) - 3)] (by rfl) (by rfl) (by exact cells_new _ _) (one_one _) (by omega) (by unfold maxLen; omega) (by omega) (by have := (unhide HD2).but.size; simp; omega) (w2.heap.size + 1) (by simp) ?_; intro g' cap' w7 hown' hgrow hat hlt7; have HD7 := hide ((unhide HD2).push hown' (by exact hgrow)); have hgn' : g' ≠ gs := (by have h2 := unhide hgn; have h3 := unhide HGL; rcases hat with h | h; (· have h4 := Option.some.inj (show some g = some g' from h); omega); omega); have HS7 := hide ((unhide HS2).grown _ (g := g) (by exact hgrow) (fun x hx => by have := at_eq hx; have h2 := unhide hgn; omega)); clear hown' hgrow hat hlt7 y0 y1 y2 y3 y4 y5 y6; obtain ⟨y0, y1, y2, y3, y4, y5, y6⟩ := (unhide HD7).1.all) | (go_simp; go_at_call 45; refine (unhide HC).mono ?_; rintro e w2 ⟨⟨q, hq, rfl⟩, hr2, hb2⟩; have HD2 := hide ((unhide HDD).next hb2 hr2); have HS2 := hide (hb2.own (unhide HSD) (by rintro x rfl hk; have := at_eq hk; omega)); have HGL : Hid (gs < w2.heap.size) := (by obtain ⟨b, off, eb, hlt, _⟩ := (unhide HS2).row.get (k := 0) (by omega); cases eb; exact hlt); obtain ⟨j9, hj9, q9, q9'⟩ := modN q 9 (by omega); have r9 : (q : Int).tmod 9 = (j9 : Int) := q9; have r9' : (q : Int) % 9 = (j9 : Int) := q9'; have w9 : IntKind.i64.wrap ((j9 : Int) - 3) = (j9 : Int) - 3 := (by rw [IntKind.wrap_i64]; omega); clear hr2 hb2 q9 q9' y0 y1 y2 y3 y4 y5 y6; obtain ⟨y0, y1, y2, y3, y4, y5, y6⟩ := (unhide HD2).box.all))
      all_goals go_wp2_with fail
      all_goals refine ⟨⟨n + 1, g', cap', l ++ [(j9 : Int) - 3], by omega, by go_num, hide hgn', hide (unhide HD7).2, hide ((unhide HS7).other (q := ⟨p7, 2, none⟩) (fun x hx e => by have := at_eq hx; simp at e; omega) _)⟩, ?_⟩
      all_goals (simp [intOf]; omega)
    · have hnz : ¬ (n : Int) < (N : Int) := by omega
      have hnN : n = N := by omega
      subst hnN
      obtain ⟨y0, y1, y2, y3, y4, y5, y6⟩ := (unhide hd).box.all
      obtain ⟨q0, q1, q2, q3, q4, q5, q6⟩ := (unhide hd).res.all
      obtain ⟨_, _, ev, hO2⟩ := Own.of_owns (unhide hd).owns (by omega)
      cases ev
      have HO2 := hide hO2
      have hgp7 := owns_nebox (unhide hd).owns (unhide hd).box
      have h0w := (unhide hd).h0
      clear hO2
      obtain ⟨j2, hj2, q2m, q2m'⟩ := modN k 2 (by omega)
      have r2 : (k : Int).tmod 2 = (j2 : Int) := q2m
      have r2' : (k : Int) % 2 = (j2 : Int) := q2m'
      clear q2m q2m'
      by_cases hc : n = 1 ∧ j2 = 0
      · have g1 : ((n : Int) == 1) = true := by simp [hc.1]
        have g2 : ((j2 : Int) == 0) = true := by simp [hc.2]
        have HN := hide hc
        clear hc
        go_wp2_with fail
        have hres : Box (wr.setCell ⟨p7, 1, none⟩ (.slice (some ⟨wr.heap.size, 0, none⟩) 0 0)) w.heap.size false (.slice none 0 0) (.slice none 0 0) := (unhide hd).res.other (q := ⟨p7, 1, none⟩) (fun e => hp7w e.symm) _
        have hx := (hres.sets (c' := false) (u1 := .slice (some ⟨wr.heap.size, 0, none⟩) 0 0) (u2 := .slice (some ⟨g, 0, none⟩) n cap)).alloc (.cells #[] 3)
        obtain ⟨t0, t1, t2, _, _, _⟩ := hx.all
        refine bodyPost_ret (v := .agg #[.bool false, .slice (some ⟨wr.heap.size, 0, none⟩) 0 0, .slice (some ⟨g, 0, none⟩) n cap]) (by simp [results, Tryz.results135, go_sem, t0, t1, t2]) rfl ?_
        have hbs : But (fun x => x = p7) wr (wr.setCell ⟨p7, 1, none⟩ (.slice (some ⟨wr.heap.size, 0, none⟩) 0 0)) := (But.refl (fun x => x = p7) wr).setCell (p := ⟨p7, 1, none⟩) rfl _
        have h7x := (unhide hd).h7
        have hO0 : Own (wr.setCell ⟨p7, 1, none⟩ (.slice (some ⟨wr.heap.size, 0, none⟩) 0 0)) w.heap.size (some ⟨wr.heap.size, 0, none⟩) 0 [] := ⟨rfl, by omega, .inl rfl⟩
        exact (drawnN_end hres (Nat.le_refl _) hO0 ((unhide HO2).other (q := ⟨p7, 1, none⟩) (fun x hx e => by have := at_eq hx; simp at e; omega) _) (by omega) ((unhide hd).rd.but hbs (by rintro x rfl; omega)) hlw ((unhide hd).but.setNew (p := ⟨p7, 1, none⟩) (unhide hd).h7 _)).below ((Below.refl _ _).alloc (Nat.le_refl _) _)
      · by_cases hc1 : n = 1
        · have g1 : ((n : Int) == 1) = true := by simp [hc1]
          have g2 : ((j2 : Int) == 0) = false := by simp; omega
          clear hc hc1
          go_wp2_with fail
          have hx := (unhide hd).res.sets (c' := false) (u1 := .slice (some ⟨gs, 0, none⟩) 1 1) (u2 := .slice (some ⟨g, 0, none⟩) n cap)
          obtain ⟨t0, t1, t2, _, _, _⟩ := hx.all
          refine bodyPost_ret (v := .agg #[.bool false, .slice (some ⟨gs, 0, none⟩) 1 1, .slice (some ⟨g, 0, none⟩) n cap]) (by simp [results, Tryz.results135, go_sem, t0, t1, t2]) rfl ?_
          exact drawnN_end (unhide hd).res (Nat.le_refl _) (unhide hs) (unhide HO2) (by omega) (unhide hd).rd hlw (unhide hd).but
        · have g1 : ((n : Int) == 1) = false := by simp; omega
          clear hc hc1
          go_wp2_with fail
          have hx := (unhide hd).res.sets (c' := false) (u1 := .slice (some ⟨gs, 0, none⟩) 1 1) (u2 := .slice (some ⟨g, 0, none⟩) n cap)
          obtain ⟨t0, t1, t2, _, _, _⟩ := hx.all
          refine bodyPost_ret (v := .agg #[.bool false, .slice (some ⟨gs, 0, none⟩) 1 1, .slice (some ⟨g, 0, none⟩) n cap]) (by simp [results, Tryz.results135, go_sem, t0, t1, t2]) rfl ?_
          exact drawnN_end (unhide hd).res (Nat.le_refl _) (unhide hs) (unhide HO2) (by omega) (unhide hd).rd hlw (unhide hd).but

end Go.Proofs.YtgjpchnkodnieaaGreatDoor
namespace Go.Proofs.YtgjpchnkodnieaaGreatDoor
open Go.RowKit

/-- A number is written somewhere: a list of numbers stays a list of numbers. -/
theorem Own.scar {w : World} {B n : Nat} {a : Option Addr} {zs : List Int} (h : Own w B a n zs) (p : Addr) (x : Int) : ∃ ys, Own (w.setCell p (.int .i64 x)) B a n ys := by
  rcases h.at_ with h0 | ⟨g, off, rfl, hg, hlt, hc, hf⟩
  · exact ⟨zs, h.len, h.small, .inl h0⟩
  · refine ⟨(List.range n).map fun i => if (⟨g, off + i, none⟩ : Addr) = p then x else zs.getD i 0, by simp, h.small, .inr ⟨g, off, rfl, hg, by simpa using hlt, fun i hi => ?_, fun i hi => by simpa using hf i hi⟩⟩
    by_cases e : (⟨g, off + i, none⟩ : Addr) = p
    · rw [← e, World.cell?_setCell_same _ _ _ (hc i hi)]
      simp [List.getD, hi]
    · rw [World.cell?_setCell_other _ _ _ _ (fun e2 => e e2.symm), hc i hi]
      simp [List.getD, hi, e]

set_option maxRecDepth 20000 in
set_option maxHeartbeats 8000000 in
theorem l5Odd_any (pr N : Nat) (hN : N ≤ 10000) (w : World) (h : RdOk w pr) :
    Calls Tryz.prog 47 #[.pointer (some ⟨pr, 0, none⟩), .int .i64 (N : Nat)] w (DrawnRow pr w) := by
  have hlw := h.lt
  have hb0 : Below w.heap.size w (w.alloc (.cells #[.bool false, .slice none 0 0, .slice none 0 0] 25)) := (Below.refl _ w).alloc (Nat.le_refl _) _
  have HP0 : Hid (Box (w.alloc (.cells #[.bool false, .slice none 0 0, .slice none 0 0] 25)) w.heap.size false (.slice none 0 0) (.slice none 0 0)) := Box.new w _ _ _
  have HB0 : Hid (But (fun x => x = pr) w (w.alloc (.cells #[.bool false, .slice none 0 0, .slice none 0 0] 25))) := But.of_below hb0
  have hcall := next_any pr _ (h.below hb0)
  clear h hb0
  go_enter Tryz.func47, Tryz.ntmps47
  go_upto_region 2 with (go_at_call 45; refine hcall.mono ?_; rintro e w1 ⟨⟨k, hk, rfl⟩, hr1, hb1⟩; have HR1 := hide hr1; have HB1' := hide hb1; clear hr1 hb1)
  clear hcall
  have HP1 := hide ((unhide HP0).but (unhide HB1') (by show ¬ w.heap.size = pr; omega))
  have HB1 : Hid (But (fun x => x = pr) w w1) := ((unhide HB0).trans (unhide HB1')).mono (by rintro x (h | h) <;> exact h)
  have hw1 := (unhide HP1).lt
  clear HP0 HB0 HB1'
  by_cases hb : 240 ≤ k
  · have g0 : decide ((240 : Int) ≤ (k : Int)) = true := by simp; omega
    have hcA := l3Array_any pr w1 (unhide HR1)
    clear hb
    go_wp2_with (go_at_call 46; refine hcA.mono ?_; rintro e w2 ⟨⟨c, a1, a2, n1, n2, c1, c2, sh, dt, rfl, o1, o2, h1, h2⟩, hr2, hb2⟩; have HO1 := hide o1; have HO2 := hide o2; have HR2 := hide hr2; have HB2 := hide hb2; have HP2 := hide ((unhide HP1).but hb2 (by show ¬ w.heap.size = pr; omega)); obtain ⟨y0, y1, y2, y3, y4, y5, y6⟩ := (unhide HP2).all; clear o1 o2 hr2 hb2)
    have hx := (unhide HP2).sets (c' := c) (u1 := .slice (some a1) n1 c1) (u2 := .slice (some a2) n2 c2)
    obtain ⟨r0, r1, r2, _, _, _⟩ := hx.all
    refine bodyPost_ret (v := .agg #[.bool c, .slice (some a1) n1 c1, .slice (some a2) n2 c2]) (by simp [results, Tryz.results47, go_sem, r0, r1, r2]) rfl ?_
    exact drawnR_end (unhide HP2) (Nat.le_refl _) ((unhide HO1).mono (by omega)) ((unhide HO2).mono (by omega)) h1 h2 (unhide HR2) hlw (((unhide HB1).trans (unhide HB2)).mono (by rintro x (h | h) <;> exact h))
  · have g0 : decide ((240 : Int) ≤ (k : Int)) = false := by simp; omega
    have hcS := l5Small_any pr N hN w1 (unhide HR1)
    clear hb
    by_cases hq : 230 ≤ k ∧ 0 < N
    · have g1 : decide ((230 : Int) ≤ (k : Int)) = true := by simp; omega
      have g2 : decide ((0 : Int) < (N : Int)) = true := by simp; omega
      have hN0 : 0 < N := hq.2
      clear hq
      obtain ⟨j4, hj4, q4, q4'⟩ := modN k 4 (by omega)
      have r4 : (k : Int).tmod 4 = (j4 : Int) := q4
      have r4' : (k : Int) % 4 = (j4 : Int) := q4'
      clear q4 q4'
      go_upto_if 21 with (go_at_call 135; refine hcS.mono ?_; rintro e w2 ⟨⟨c, a1, a2, n1, c1, c2, sh, dt, rfl, o1, o2, h1⟩, hr2, hb2⟩; have HO1 := hide o1; have HO2 := hide o2; have HR2 := hide hr2; have HB2 := hide hb2; clear o1 o2 hr2 hb2)
      obtain ⟨X, hX⟩ : ∃ X, X = w2.alloc (.cells #[.bool c, .slice (some a1) n1 c1, .slice (some a2) N c2] 25) := ⟨_, rfl⟩
      obtain ⟨p6, hp6⟩ : ∃ p, p = w2.heap.size := ⟨_, rfl⟩
      have hsz := (unhide HB2).size
      have hKX : Below w2.heap.size w2 X := by rw [hX]; exact (Below.refl _ _).alloc (Nat.le_refl _) _
      have HBX : Hid (Box X p6 c (.slice (some a1) n1 c1) (.slice (some a2) N c2)) := by rw [hX, hp6]; exact Box.new _ _ _ _
      have HRX := hide (((unhide HP1).but (unhide HB2) (by show ¬ w.heap.size = pr; omega)).below (Nat.le_refl _) hKX)
      have O1X := hide (((unhide HO1).below (Nat.le_refl _) hKX).mono (B' := w.heap.size) (by have h9 := hw1; omega))
      have O2X := hide (((unhide HO2).below (Nat.le_refl _) hKX).mono (B' := w.heap.size) (by have h9 := hw1; omega))
      have RDX := hide ((unhide HR2).below hKX)
      have BTX : Hid (But (fun x => x = pr) w X) := (((unhide HB1).trans (unhide HB2)).trans (T := fun x => x = pr) (But.of_below hKX)).mono (by rintro x ((h | h) | h) <;> exact h)
      have hp6w : w.heap.size < p6 := by omega
      rw [← hX, ← hp6]
      clear hX hp6 hKX HO1 HO2 HR2 HB2 hsz HP1 HB1 HR1
      rcases (unhide O2X).at_ with h0 | ⟨b, off, eb, hbw, hlt, hc, hf⟩
      · omega
      cases eb
      have hc0 := hc 0 hN0
      have hf0 := hf 0 hN0
      rw [Nat.add_zero] at hc0 hf0
      have hnb : ¬ b = p6 := fun e => (unhide O2X).row.notBox (unhide HBX) (show At (some ⟨b, off, none⟩) N b from ⟨by omega, _, rfl, rfl⟩) e
      have hnw : ¬ b = w.heap.size := fun e => (unhide O2X).row.notBox (unhide HRX) (show At (some ⟨b, off, none⟩) N b from ⟨by omega, _, rfl, rfl⟩) e
      have hlit := lits X [10000, 10001, -10001, 1000000000000000] j4 (by simpa using hj4)
      obtain ⟨x, hx⟩ : ∃ x, x = ([10000, 10001, -10001, 1000000000000000] : List Int).getD j4 0 := ⟨_, rfl⟩
      rw [← hx] at hlit
      simp only [List.map_cons, List.map_nil] at hlit
      have hjz : (j4 : Int) < 4 := by omega
      obtain ⟨y0, y1, y2, y3, y4, y5, y6⟩ := (unhide HBX).all
      clear hc hf hx
      go_wp2_with fail
      go_region
      obtain ⟨V, hV⟩ : ∃ V, V = ((X.setCell ⟨b, off, none⟩ (.int .i64 x)).alloc (.cells #[.int .i64 10000, .int .i64 10001, .int .i64 (-10001), .int .i64 1000000000000000] 3)).drew := ⟨_, rfl⟩
      obtain ⟨s1, hs1⟩ := (unhide O1X).scar ⟨b, off, none⟩ x
      obtain ⟨s2, hs2⟩ := (unhide O2X).scar ⟨b, off, none⟩ x
      have hKV : Below (X.setCell ⟨b, off, none⟩ (.int .i64 x)).heap.size (X.setCell ⟨b, off, none⟩ (.int .i64 x)) V := by rw [hV]; exact ((Below.refl _ _).alloc (Nat.le_refl _) _).drew
      have hbs : But (fun y => y = b) X (X.setCell ⟨b, off, none⟩ (.int .i64 x)) := (But.refl (fun y => y = b) X).setCell (p := ⟨b, off, none⟩) rfl _
      have BXV := hide (((unhide HBX).other (q := ⟨b, off, none⟩) (fun e => hnb e.symm) (.int .i64 x)).below (Nat.le_refl _) hKV)
      have RXV := hide (((unhide HRX).other (q := ⟨b, off, none⟩) (fun e => hnw e.symm) (.int .i64 x)).below (Nat.le_refl _) hKV)
      have O1V := hide (hs1.below (Nat.le_refl _) hKV)
      have O2V := hide (hs2.below (Nat.le_refl _) hKV)
      have RDV := hide (((unhide RDX).but hbs (by rintro y rfl; omega)).below hKV)
      have BTV : Hid (But (fun x => x = pr) w V) := (((unhide BTX).setNew (p := ⟨b, off, none⟩) hbw (.int .i64 x)).trans (T := fun x => x = pr) (But.of_below hKV)).mono (by rintro x (h | h) <;> exact h)
      rw [← hV]
      clear hV hKV hbs hs1 hs2 hc0 hf0 hlit y0 y1 y2 y3 y4 y5 y6
      obtain ⟨y0, y1, y2, y3, y4, y5, y6⟩ := (unhide BXV).all
      obtain ⟨z0, z1, z2, z3, z4, z5, z6⟩ := (unhide RXV).all
      go_wp2_with fail
      have hx := (unhide RXV).sets (c' := c) (u1 := .slice (some a1) n1 c1) (u2 := .slice (some ⟨b, off, none⟩) N c2)
      obtain ⟨t0, t1, t2, _, _, _⟩ := hx.all
      refine bodyPost_ret (v := .agg #[.bool c, .slice (some a1) n1 c1, .slice (some ⟨b, off, none⟩) N c2]) (by simp [results, Tryz.results47, go_sem, t0, t1, t2]) rfl ?_
      exact drawnR_end (unhide RXV) (Nat.le_refl _) (unhide O1V) (unhide O2V) h1 (by omega) (unhide RDV) hlw (unhide BTV)
    · by_cases hk2 : 230 ≤ k
      · have g1 : decide ((230 : Int) ≤ (k : Int)) = true := by simp; omega
        obtain ⟨Z, hZ⟩ : ∃ Z : Nat, N = Z ∧ Z = 0 := ⟨_, rfl, by omega⟩
        obtain ⟨rfl, hZ0⟩ := hZ
        have HZ := hide hZ0
        have g2 : decide ((0 : Int) < (N : Int)) = false := by simp; omega
        have g3 : decide (0 < N) = false := by simp; omega
        clear hq hk2 hZ0
        go_upto_if 21 with (go_at_call 135; refine hcS.mono ?_; rintro e w2 ⟨⟨c, a1, a2, n1, c1, c2, sh, dt, rfl, o1, o2, h1⟩, hr2, hb2⟩; have HO1 := hide o1; have HO2 := hide o2; have HR2 := hide hr2; have HB2 := hide hb2; clear o1 o2 hr2 hb2)
        obtain ⟨X, hX⟩ : ∃ X, X = w2.alloc (.cells #[.bool c, .slice (some a1) n1 c1, .slice (some a2) N c2] 25) := ⟨_, rfl⟩
        obtain ⟨p6, hp6⟩ : ∃ p, p = w2.heap.size := ⟨_, rfl⟩
        have hsz := (unhide HB2).size
        have hKX : Below w2.heap.size w2 X := by rw [hX]; exact (Below.refl _ _).alloc (Nat.le_refl _) _
        have BXV : Hid (Box X p6 c (.slice (some a1) n1 c1) (.slice (some a2) N c2)) := by rw [hX, hp6]; exact Box.new _ _ _ _
        have RXV := hide (((unhide HP1).but (unhide HB2) (by show ¬ w.heap.size = pr; omega)).below (Nat.le_refl _) hKX)
        have O1V := hide (((unhide HO1).below (Nat.le_refl _) hKX).mono (B' := w.heap.size) (by have h9 := hw1; omega))
        have O2V := hide (((unhide HO2).below (Nat.le_refl _) hKX).mono (B' := w.heap.size) (by have h9 := hw1; omega))
        have RDV := hide ((unhide HR2).below hKX)
        have BTV : Hid (But (fun x => x = pr) w X) := (((unhide HB1).trans (unhide HB2)).trans (T := fun x => x = pr) (But.of_below hKX)).mono (by rintro x ((h | h) | h) <;> exact h)
        rw [← hX, ← hp6]
        clear hX hp6 hKX HO1 HO2 HR2 HB2 hsz HP1 HB1 HR1
        obtain ⟨y0, y1, y2, y3, y4, y5, y6⟩ := (unhide BXV).all
        obtain ⟨z0, z1, z2, z3, z4, z5, z6⟩ := (unhide RXV).all
        go_wp2_with fail
        have hx := (unhide RXV).sets (c' := c) (u1 := .slice (some a1) n1 c1) (u2 := .slice (some a2) N c2)
        obtain ⟨t0, t1, t2, _, _, _⟩ := hx.all
        refine bodyPost_ret (v := .agg #[.bool c, .slice (some a1) n1 c1, .slice (some a2) N c2]) (by simp [results, Tryz.results47, go_sem, t0, t1, t2]) rfl ?_
        exact drawnR_end (unhide RXV) (Nat.le_refl _) (unhide O1V) (unhide O2V) h1 (by omega) (unhide RDV) hlw (unhide BTV)
      · have g1 : decide ((230 : Int) ≤ (k : Int)) = false := by simp; omega
        clear hq hk2
        obtain ⟨bn, hbn⟩ : ∃ b, decide ((0 : Int) < (N : Int)) = b := ⟨_, rfl⟩
        go_upto_if 21 with (go_at_call 135; refine hcS.mono ?_; rintro e w2 ⟨⟨c, a1, a2, n1, c1, c2, sh, dt, rfl, o1, o2, h1⟩, hr2, hb2⟩; have HO1 := hide o1; have HO2 := hide o2; have HR2 := hide hr2; have HB2 := hide hb2; clear o1 o2 hr2 hb2)
        obtain ⟨X, hX⟩ : ∃ X, X = w2.alloc (.cells #[.bool c, .slice (some a1) n1 c1, .slice (some a2) N c2] 25) := ⟨_, rfl⟩
        obtain ⟨p6, hp6⟩ : ∃ p, p = w2.heap.size := ⟨_, rfl⟩
        have hsz := (unhide HB2).size
        have hKX : Below w2.heap.size w2 X := by rw [hX]; exact (Below.refl _ _).alloc (Nat.le_refl _) _
        have BXV : Hid (Box X p6 c (.slice (some a1) n1 c1) (.slice (some a2) N c2)) := by rw [hX, hp6]; exact Box.new _ _ _ _
        have RXV := hide (((unhide HP1).but (unhide HB2) (by show ¬ w.heap.size = pr; omega)).below (Nat.le_refl _) hKX)
        have O1V := hide (((unhide HO1).below (Nat.le_refl _) hKX).mono (B' := w.heap.size) (by have h9 := hw1; omega))
        have O2V := hide (((unhide HO2).below (Nat.le_refl _) hKX).mono (B' := w.heap.size) (by have h9 := hw1; omega))
        have RDV := hide ((unhide HR2).below hKX)
        have BTV : Hid (But (fun x => x = pr) w X) := (((unhide HB1).trans (unhide HB2)).trans (T := fun x => x = pr) (But.of_below hKX)).mono (by rintro x ((h | h) | h) <;> exact h)
        rw [← hX, ← hp6]
        clear hX hp6 hKX HO1 HO2 HR2 HB2 hsz HP1 HB1 HR1
        obtain ⟨y0, y1, y2, y3, y4, y5, y6⟩ := (unhide BXV).all
        obtain ⟨z0, z1, z2, z3, z4, z5, z6⟩ := (unhide RXV).all
        go_wp2_with fail
        have hx := (unhide RXV).sets (c' := c) (u1 := .slice (some a1) n1 c1) (u2 := .slice (some a2) N c2)
        obtain ⟨t0, t1, t2, _, _, _⟩ := hx.all
        refine bodyPost_ret (v := .agg #[.bool c, .slice (some a1) n1 c1, .slice (some a2) N c2]) (by simp [results, Tryz.results47, go_sem, t0, t1, t2]) rfl ?_
        exact drawnR_end (unhide RXV) (Nat.le_refl _) (unhide O1V) (unhide O2V) h1 (by omega) (unhide RDV) hlw (unhide BTV)

end Go.Proofs.YtgjpchnkodnieaaGreatDoor
namespace Go.Proofs.YtgjpchnkodnieaaGreatDoor
open Go.RowKit

theorem Row.at_lt {w : World} {a : Option Addr} {n x : Nat} {zs : List Int} (h : Row w a n zs) (hx : At a n x) : x < w.heap.size := by
  obtain ⟨hn, ad, rfl, rfl⟩ := hx
  obtain ⟨b, off, eb, hlt, _⟩ := h.get (k := 0) (Nat.pos_of_ne_zero hn)
  cases eb
  exact hlt

theorem blk_lit (w : World) (z : Int) : Blk (w.alloc (.cells #[.int .i64 z] 3)) w.heap.size [z] := by
  show (w.heap.push _)[w.heap.size]? = _
  simp

theorem own_cellT {w : World} {B g n k : Nat} {zs : List Int} (h : Own w B (some ⟨g, 0, none⟩) n zs) (hk : k < n) : w.cell? ⟨g, k, none⟩ = some (.int .i64 (zs.getD k 0)) ∧ w.frozen? ⟨g, k, none⟩ = false := by
  rcases h.at_ with h0 | ⟨g', off', e, _, _, hc, hf⟩
  · omega
  · cases e
    have h1 := hc k hk
    have h2 := hf k hk
    rw [Nat.zero_add] at h1 h2
    exact ⟨h1, h2⟩

/-- An array is drawn (its box p6), and a list of numbers is being made behind it (its box p8). -/
structure DT (w : World) (pr p6 gs p8 : Nat) (c : Bool) (a1 a2 : Addr) (n1 n2 c1 c2 : Nat) (V : World) (l : List Int) (n g cap : Nat) : Prop where
  b0 : Box V w.heap.size false (.slice none 0 0) (.slice none 0 0)
  b1 : Box V (w.heap.size + 1) false (.slice none 0 0) (.slice none 0 0)
  b6 : Box V p6 c (.slice (some a1) n1 c1) (.slice (some a2) n2 c2)
  b8 : Box V p8 false (.slice (some ⟨gs, 0, none⟩) 1 1) (.slice (some ⟨g, 0, none⟩) n cap)
  o1 : ∃ sh, Own V (pr + 1) (some a1) n1 sh
  o2 : ∃ dt, Own V (pr + 1) (some a2) n2 dt
  lo1 : ∀ x, At (some a1) n1 x → x < gs
  lo2 : ∀ x, At (some a2) n2 x → x < gs
  os : Own V (pr + 1) (some ⟨gs, 0, none⟩) 1 [(n1 : Int)]
  owns : V.ownsRow (pr + 1) 3 1 (.slice (some ⟨g, 0, none⟩) n cap) n (l.map (Value.int .i64))
  rd : RdOk V pr
  low : Below w.heap.size w V
  hp : w.heap.size + 2 ≤ pr
  hq : pr < p6
  h6 : p6 < gs
  hg : gs < g
  h8 : gs < p8

section
variable {w V V' w' : World} {pr p6 gs p8 : Nat} {c : Bool} {a1 a2 : Addr} {n1 n2 c1 c2 : Nat} {l : List Int} {n g cap g' cap' : Nat}
theorem DT.below (h : DT w pr p6 gs p8 c a1 a2 n1 n2 c1 c2 V l n g cap) (hb : Below V.heap.size V V') : DT w pr p6 gs p8 c a1 a2 n1 n2 c1 c2 V' l n g cap := by
  obtain ⟨s1, hs1⟩ := h.o1
  obtain ⟨s2, hs2⟩ := h.o2
  exact ⟨h.b0.below (Nat.le_refl _) hb, h.b1.below (Nat.le_refl _) hb, h.b6.below (Nat.le_refl _) hb, h.b8.below (Nat.le_refl _) hb, ⟨s1, hs1.below (Nat.le_refl _) hb⟩, ⟨s2, hs2.below (Nat.le_refl _) hb⟩, h.lo1, h.lo2, h.os.below (Nat.le_refl _) hb, owns_below h.owns (Nat.le_refl _) hb, h.rd.below hb, h.low.trans (hb.mono h.low.size), h.hp, h.hq, h.h6, h.hg, h.h8⟩

theorem DT.push (h : DT w pr p6 gs p8 c a1 a2 n1 n2 c1 c2 V l n g cap) {x : Int} {o : Obj} (hown : w'.ownsRow (pr + 1) 3 1 (.slice (some ⟨g', 0, none⟩) (n + 1) cap') (n + 1) (l.map (Value.int .i64) ++ [.int .i64 x])) (hgr : (V.alloc o).grownBy w' (Value.ownBlock (.slice (some ⟨g, 0, none⟩) n cap))) (hg' : gs < g') :
    Box w' p8 false (.slice (some ⟨gs, 0, none⟩) 1 1) (.slice (some ⟨g, 0, none⟩) n cap) ∧ DT w pr p6 gs p8 c a1 a2 n1 n2 c1 c2 (w'.setCell ⟨p8, 2, none⟩ (.slice (some ⟨g', 0, none⟩) (n + 1) cap')) (l ++ [x]) (n + 1) g' cap' := by
  have hbt : But (fun x => x = g) V w' := but_grown (show (V.alloc o).grownBy w' (some g) from hgr)
  have hne := owns_nebox h.owns h.b8
  have e1 := h.hp
  have e2 := h.hq
  have e3 := h.h6
  have e4 := h.hg
  have e5 := h.h8
  have hb8 := h.b8.but hbt (fun e => hne e.symm)
  have hs : But (fun x => x = p8) w' (w'.setCell ⟨p8, 2, none⟩ (.slice (some ⟨g', 0, none⟩) (n + 1) cap')) := (But.refl (fun x => x = p8) w').setCell (p := ⟨p8, 2, none⟩) rfl _
  obtain ⟨s1, hs1⟩ := h.o1
  obtain ⟨s2, hs2⟩ := h.o2
  refine ⟨hb8, (h.b0.but hbt (by show ¬ _ = _; omega)).but hs (by show ¬ _ = _; omega), (h.b1.but hbt (by show ¬ _ = _; omega)).but hs (by show ¬ _ = _; omega), (h.b6.but hbt (by show ¬ _ = _; omega)).but hs (by show ¬ _ = _; omega), hb8.set2 _,
    ⟨s1, hs.own (hbt.own hs1 (fun x hx hk => by have := h.lo1 x hk; omega)) (fun x hx hk => by have := h.lo1 x hk; omega)⟩,
    ⟨s2, hs.own (hbt.own hs2 (fun x hx hk => by have := h.lo2 x hk; omega)) (fun x hx hk => by have := h.lo2 x hk; omega)⟩, h.lo1, h.lo2,
    hs.own (hbt.own h.os (fun x hx hk => by have := at_eq hk; omega)) (fun x hx hk => by have := at_eq hk; omega), ?_,
    (h.rd.but hbt (by rintro k rfl; omega)).but hs (by rintro k rfl; omega), (h.low.trans (hbt.below h.low.size (fun x hx => by omega))).setCell (p := ⟨p8, 2, none⟩) (by show _ ≤ p8; omega) _, h.hp, h.hq, h.h6, hg', h.h8⟩
  rw [List.map_append]
  exact owns_box_set hown hb8 _ _
end

/-- .. and the list is made. -/
structure DP (w : World) (pr p6 gs p8 : Nat) (c : Bool) (a1 a2 : Addr) (n1 n2 c1 c2 g cap : Nat) (V : World) : Prop where
  b0 : Box V w.heap.size false (.slice none 0 0) (.slice none 0 0)
  b1 : Box V (w.heap.size + 1) false (.slice none 0 0) (.slice none 0 0)
  b6 : Box V p6 c (.slice (some a1) n1 c1) (.slice (some a2) n2 c2)
  b8 : Box V p8 false (.slice (some ⟨gs, 0, none⟩) 1 1) (.slice (some ⟨g, 0, none⟩) n1 cap)
  o1 : ∃ sh, Own V (pr + 1) (some a1) n1 sh
  o2 : ∃ dt, Own V (pr + 1) (some a2) n2 dt
  os : ∃ dt, Own V (pr + 1) (some ⟨gs, 0, none⟩) 1 dt
  og : ∃ dt, Own V (pr + 1) (some ⟨g, 0, none⟩) n1 dt
  rd : RdOk V pr
  low : Below w.heap.size w V
  hp : w.heap.size + 2 ≤ pr
  hq : pr < p6
  h6 : p6 < gs
  hg : gs < g
  h8 : gs < p8
  h9 : ¬ g = p8

section
variable {w V V' : World} {pr p6 gs p8 : Nat} {c : Bool} {a1 a2 : Addr} {n1 n2 c1 c2 : Nat} {l : List Int} {g cap : Nat}
theorem DT.made (h : DT w pr p6 gs p8 c a1 a2 n1 n2 c1 c2 V l n1 g cap) (hn : n1 ≤ 6) : DP w pr p6 gs p8 c a1 a2 n1 n2 c1 c2 g cap V := by
  obtain ⟨_, _, ev, hO2⟩ := Own.of_owns h.owns (by omega)
  cases ev
  exact ⟨h.b0, h.b1, h.b6, h.b8, h.o1, h.o2, ⟨_, h.os⟩, ⟨_, hO2⟩, h.rd, h.low, h.hp, h.hq, h.h6, h.hg, h.h8, owns_nebox h.owns h.b8⟩
theorem DP.below (h : DP w pr p6 gs p8 c a1 a2 n1 n2 c1 c2 g cap V) (hb : Below V.heap.size V V') : DP w pr p6 gs p8 c a1 a2 n1 n2 c1 c2 g cap V' := by
  obtain ⟨s1, hs1⟩ := h.o1
  obtain ⟨s2, hs2⟩ := h.o2
  obtain ⟨s3, hs3⟩ := h.os
  obtain ⟨s4, hs4⟩ := h.og
  exact ⟨h.b0.below (Nat.le_refl _) hb, h.b1.below (Nat.le_refl _) hb, h.b6.below (Nat.le_refl _) hb, h.b8.below (Nat.le_refl _) hb, ⟨s1, hs1.below (Nat.le_refl _) hb⟩, ⟨s2, hs2.below (Nat.le_refl _) hb⟩, ⟨s3, hs3.below (Nat.le_refl _) hb⟩, ⟨s4, hs4.below (Nat.le_refl _) hb⟩, h.rd.below hb, h.low.trans (hb.mono h.low.size), h.hp, h.hq, h.h6, h.hg, h.h8, h.h9⟩
theorem DP.write (h : DP w pr p6 gs p8 c a1 a2 n1 n2 c1 c2 g cap V) (k : Nat) (x : Int) : DP w pr p6 gs p8 c a1 a2 n1 n2 c1 c2 g cap (V.setCell ⟨g, k, none⟩ (.int .i64 x)) := by
  have e1 := h.hp
  have e2 := h.hq
  have e3 := h.h6
  have e4 := h.hg
  have e5 := h.h8
  have e6 := h.h9
  obtain ⟨s1, hs1⟩ := h.o1
  obtain ⟨s2, hs2⟩ := h.o2
  obtain ⟨s3, hs3⟩ := h.os
  obtain ⟨s4, hs4⟩ := h.og
  have hs : But (fun y => y = g) V (V.setCell ⟨g, k, none⟩ (.int .i64 x)) := (But.refl (fun y => y = g) V).setCell (p := ⟨g, k, none⟩) rfl _
  exact ⟨h.b0.but hs (by show ¬ _ = _; omega), h.b1.but hs (by show ¬ _ = _; omega), h.b6.but hs (by show ¬ _ = _; omega), h.b8.but hs (by show ¬ _ = _; omega), hs1.scar ⟨g, k, none⟩ x, hs2.scar ⟨g, k, none⟩ x, hs3.scar ⟨g, k, none⟩ x, hs4.scar ⟨g, k, none⟩ x, h.rd.but hs (by rintro y rfl; omega), h.low.setCell (p := ⟨g, k, none⟩) (by show w.heap.size ≤ g; omega) _, h.hp, h.hq, h.h6, h.hg, h.h8, h.h9⟩
end

end Go.Proofs.YtgjpchnkodnieaaGreatDoor
namespace Go.Proofs.YtgjpchnkodnieaaGreatDoor
open Go.RowKit

theorem getD_eqM (l : List Int) (i : Nat) (h : i < l.length) : l.getD i 0 = l[i] := by simp [List.getD, h]

/-- The first k elements are taken modulo 1000. -/
def modK (dt : List Int) (k : Nat) : List Int := (dt.take k).map (fun x => x.tmod 1000) ++ dt.drop k
theorem modK_len (dt : List Int) (k : Nat) : (modK dt k).length = dt.length := by simp [modK]; omega
theorem modK_zero (dt : List Int) : modK dt 0 = dt := by simp [modK]
theorem modK_get (dt : List Int) (j k : Nat) : (modK dt k).getD j 0 = if j < k then (dt.getD j 0).tmod 1000 else dt.getD j 0 := by
  by_cases hj : j < dt.length
  · by_cases hk : j < k
    · rw [if_pos hk]
      simp [modK, List.getD, List.getElem?_append, hk, hj]
      rw [if_pos (by omega)]
      rfl
    · rw [if_neg hk]
      simp only [modK, List.getD_eq_getElem?_getD, List.getElem?_append, List.length_map, List.length_take]
      rw [if_neg (by omega), List.getElem?_drop]
      congr 2
      omega
  · have e1 : (modK dt k).getD j 0 = 0 := by rw [List.getD_eq_getElem?_getD, List.getElem?_eq_none (by rw [modK_len]; omega)]; rfl
    have e2 : dt.getD j 0 = 0 := by rw [List.getD_eq_getElem?_getD, List.getElem?_eq_none (by omega)]; rfl
    rw [e1, e2]
    split <;> rfl
theorem modK_set (dt : List Int) (k : Nat) : (modK dt k).set k ((dt.getD k 0).tmod 1000) = modK dt (k + 1) := by
  apply List.ext_getElem
  · simp [modK_len]
  · intro i h1 h2
    have e1 := modK_get dt i (k + 1)
    have e2 := modK_get dt i k
    rw [getD_eqM _ i h2] at e1
    rw [getD_eqM _ i (by rw [modK_len] at h2 ⊢; exact h2)] at e2
    rw [List.getElem_set]
    by_cases hik : k = i
    · subst hik; rw [if_pos rfl, e1, if_pos (by omega)]
    · rw [if_neg hik, e1, e2]
      by_cases h3 : i < k
      · rw [if_pos h3, if_pos (by omega)]
      · rw [if_neg h3, if_neg (by omega)]
theorem modK_small (dt : List Int) : Small3 (modK dt dt.length) := by
  intro k
  rw [modK_get]
  by_cases hk : k < dt.length
  · rw [if_pos hk]
    have h1 := Int.tmod_lt_of_pos (dt.getD k 0) (show (0 : Int) < 1000 by omega)
    have h2 := Int.tmod_lt_of_pos (-(dt.getD k 0)) (show (0 : Int) < 1000 by omega)
    rw [Int.neg_tmod] at h2
    omega
  · rw [if_neg hk, List.getD_eq_getElem?_getD, List.getElem?_eq_none (by omega)]
    exact ⟨by decide, by decide⟩
theorem modK_ok {R C : Nat} {dt : List Int} (h : arrOk false [(R : Int), (C : Int)] dt = true) : arrOk false [(R : Int), (C : Int)] (modK dt dt.length) = true := by
  have hs := modK_small dt
  unfold arrOk at h ⊢
  simp only [Bool.and_eq_true, decide_eq_true_eq, List.all_eq_true] at h ⊢
  refine ⟨h.1, by rw [modK_len]; exact h.2.1, ?_⟩
  intro x hx
  obtain ⟨k, hk, rfl⟩ := List.getElem_of_mem hx
  have := hs k
  rw [getD_eqM _ k hk] at this
  unfold dataOk
  simp only [Bool.not_false, Bool.true_or, Bool.true_and, decide_eq_true_eq]
  omega

theorem Own.setAt {w : World} {B g n k : Nat} {zs : List Int} (h : Own w B (some ⟨g, 0, none⟩) n zs) (hk : k < n) (x : Int) : Own (w.setCell ⟨g, k, none⟩ (.int .i64 x)) B (some ⟨g, 0, none⟩) n (zs.set k x) := by
  have hl := h.len
  rcases h.at_ with h0 | ⟨g', off, e, hg, hlt, hc, hf⟩
  · omega
  · cases e
    refine ⟨by simpa using h.len, h.small, .inr ⟨g, 0, rfl, hg, by simpa using hlt, fun i hi => ?_, fun i hi => by simpa using hf i hi⟩⟩
    rw [Nat.zero_add]
    have hci := hc i hi
    rw [Nat.zero_add] at hci
    by_cases e : i = k
    · subst e
      rw [World.cell?_setCell_same _ _ _ hci]
      simp [List.getD, hl, hk]
    · rw [World.cell?_setCell_other _ _ _ _ (fun e2 => e (by cases e2; rfl)), hci]
      congr 2
      simp [List.getD, Ne.symm e]

theorem prod_codes {R C S : Nat} {x y : List Int} (h1 : arrOk false [(R : Int), (C : Int)] x = true) (h2 : arrOk false [(C : Int), (S : Int)] y = true) (bx : Small3 x) (hy : Small3 y) {ic jc : Bool} {ish idt jsh jdt : List Int} {cI cJ : Int} (hi : inner 1 3 false false [(R : Int), (C : Int)] x [(C : Int), (S : Int)] y = ⟨ic, ish, idt, cI⟩) (hj : inner 1 3 false false [(S : Int), (C : Int)] (tr2 y C S) [(C : Int), (R : Int)] (tr2 x R C) = ⟨jc, jsh, jdt, cJ⟩) :
    cJ = cI ∧ (cI = 0 → ic = false ∧ jc = false ∧ ish = [(R : Int), (S : Int)] ∧ jsh = [(S : Int), (R : Int)] ∧ arrOk false [(R : Int), (S : Int)] idt = true ∧ tr2 idt R S = jdt) := by
  rcases product h1 h2 bx hy with ⟨e1, e2⟩ | ⟨z, zt, e1, e2, hok, htr⟩
  · rw [hi] at e1
    rw [hj] at e2
    cases e1
    cases e2
    exact ⟨rfl, fun h => absurd h (by decide)⟩
  · rw [hi] at e1
    rw [hj] at e2
    cases e1
    cases e2
    rw [turn2 hok] at htr
    cases htr
    exact ⟨rfl, fun _ => ⟨rfl, rfl, rfl, rfl, hok, rfl⟩⟩

end Go.Proofs.YtgjpchnkodnieaaGreatDoor
namespace Go.Proofs.YtgjpchnkodnieaaGreatDoor
open Go.RowKit

/-- What a draw of two numbers and two arrays gives. -/
def DrawnInner (w : World) (e : Ending) (w' : World) : Prop := ∃ (f g : Int) (c d : Bool) (a1 a2 b1 b2 : Addr) (n1 n2 m1 m2 c1 c2 d1 d2 : Nat) (sh dt sh' dt' : List Int), e = .returned (.tuple #[.int .i64 f, .int .i64 g, .agg #[.bool c, .slice (some a1) n1 c1, .slice (some a2) n2 c2], .agg #[.bool d, .slice (some b1) m1 d1, .slice (some b2) m2 d2]]) ∧ Row w' (some a1) n1 sh ∧ Row w' (some a2) n2 dt ∧ Row w' (some b1) m1 sh' ∧ Row w' (some b2) m2 dt' ∧ n1 ≤ 6 ∧ n2 ≤ 10001 ∧ m1 ≤ 6 ∧ m2 ≤ 10001 ∧ Below w.heap.size w w'

theorem inner_end {w w' : World} {f g : Int} {c d : Bool} {a1 a2 b1 b2 : Addr} {n1 n2 m1 m2 c1 c2 d1 d2 : Nat} (h : DrawnTwo w (.returned (.tuple #[.agg #[.bool c, .slice (some a1) n1 c1, .slice (some a2) n2 c2], .agg #[.bool d, .slice (some b1) m1 d1, .slice (some b2) m2 d2]])) w') :
    DrawnInner w (.returned (.tuple #[.int .i64 f, .int .i64 g, .agg #[.bool c, .slice (some a1) n1 c1, .slice (some a2) n2 c2], .agg #[.bool d, .slice (some b1) m1 d1, .slice (some b2) m2 d2]])) w' := by
  obtain ⟨c', d', x1, x2, y1, y2, i1, i2, j1, j2', g1, g2, f1, f2, s1, s2, s3, s4, he, hh⟩ := h
  cases he
  exact ⟨f, g, _, _, _, _, _, _, _, _, _, _, _, _, _, _, _, _, _, _, rfl, hh⟩

theorem owns_oneI (w : World) (x : Int) {B : Nat} (hB : B ≤ w.heap.size) : (w.alloc (.cells #[.int .i64 x] 3)).ownsRow B 3 1 (.slice (some ⟨w.heap.size, 0, none⟩) 1 1) 1 [.int .i64 x] := by
  refine ⟨by simp, .inr ⟨w.heap.size, 1, #[.int .i64 x], rfl, hB, ?_, by simp, by unfold maxLen; omega, by simp, by simp⟩⟩
  show (w.heap.push _)[w.heap.size]? = _
  simp

/-- An array is drawn (its box p9). -/
structure DI (w : World) (pr p9 : Nat) (c : Bool) (a1 a2 : Addr) (n1 n2 c1 c2 : Nat) (V : World) : Prop where
  b0 : Box V w.heap.size false (.slice none 0 0) (.slice none 0 0)
  b1 : Box V (w.heap.size + 1) false (.slice none 0 0) (.slice none 0 0)
  b9 : Box V p9 c (.slice (some a1) n1 c1) (.slice (some a2) n2 c2)
  o1 : ∃ sh, Own V (pr + 1) (some a1) n1 sh
  o2 : ∃ dt, Own V (pr + 1) (some a2) n2 dt
  lo1 : ∀ x, At (some a1) n1 x → x < p9
  lo2 : ∀ x, At (some a2) n2 x → x < p9
  rd : RdOk V pr
  low : Below w.heap.size w V
  hp : w.heap.size + 2 ≤ pr
  hq : pr < p9

section
variable {w V V' : World} {pr p9 : Nat} {c : Bool} {a1 a2 : Addr} {n1 n2 c1 c2 : Nat}
theorem DI.below (h : DI w pr p9 c a1 a2 n1 n2 c1 c2 V) (hb : Below V.heap.size V V') : DI w pr p9 c a1 a2 n1 n2 c1 c2 V' := by
  obtain ⟨s1, hs1⟩ := h.o1
  obtain ⟨s2, hs2⟩ := h.o2
  exact ⟨h.b0.below (Nat.le_refl _) hb, h.b1.below (Nat.le_refl _) hb, h.b9.below (Nat.le_refl _) hb, ⟨s1, hs1.below (Nat.le_refl _) hb⟩, ⟨s2, hs2.below (Nat.le_refl _) hb⟩, h.lo1, h.lo2, h.rd.below hb, h.low.trans (hb.mono h.low.size), h.hp, h.hq⟩
theorem DI.next (h : DI w pr p9 c a1 a2 n1 n2 c1 c2 V) (hb : But (fun x => x = pr) V V') (hr : RdOk V' pr) : DI w pr p9 c a1 a2 n1 n2 c1 c2 V' := by
  obtain ⟨s1, hs1⟩ := h.o1
  obtain ⟨s2, hs2⟩ := h.o2
  have e1 := h.hp
  have e2 := h.hq
  exact ⟨h.b0.but hb (by show ¬ _ = _; omega), h.b1.but hb (by show ¬ _ = _; omega), h.b9.but hb (by show ¬ _ = _; omega), ⟨s1, hb.own hs1 (fun x hx hk => by have := hs1.low hk; omega)⟩, ⟨s2, hb.own hs2 (fun x hx hk => by have := hs2.low hk; omega)⟩, h.lo1, h.lo2, hr, h.low.trans (hb.below h.low.size (fun x hx => by omega)), h.hp, h.hq⟩
/-- A list that lies behind the array grows. -/
theorem DI.grown {g : Nat} {o : Obj} (h : DI w pr p9 c a1 a2 n1 n2 c1 c2 V) (hgr : (V.alloc o).grownBy V' (some g)) (hg : p9 < g) : DI w pr p9 c a1 a2 n1 n2 c1 c2 V' := by
  have hbt : But (fun x => x = g) V V' := but_grown hgr
  obtain ⟨s1, hs1⟩ := h.o1
  obtain ⟨s2, hs2⟩ := h.o2
  have e1 := h.hp
  have e2 := h.hq
  exact ⟨h.b0.but hbt (by show ¬ _ = _; omega), h.b1.but hbt (by show ¬ _ = _; omega), h.b9.but hbt (by show ¬ _ = _; omega), ⟨s1, hbt.own hs1 (fun x hx hk => by have := h.lo1 x hk; omega)⟩, ⟨s2, hbt.own hs2 (fun x hx hk => by have := h.lo2 x hk; omega)⟩, h.lo1, h.lo2, h.rd.but hbt (by rintro k rfl; omega), h.low.trans (hbt.below h.low.size (fun x hx => by omega)), h.hp, h.hq⟩
end

set_option maxRecDepth 20000 in
set_option maxHeartbeats 8000000 in
theorem DrawInner_any (a : Option Addr) (n cn : Nat) (w : World) (h : Bytes w a n) (hc : n ≤ cn) (hn : n ≤ 1048576) :
    Calls Tryz.prog 38 #[.slice a n cn] w (DrawnInner w) := by
  obtain ⟨i0, hi, hz0, hz1, hz2⟩ := info_parts info_int
  have HB0 : Hid (Below w.heap.size w ((w.alloc (.cells #[.bool false, .slice none 0 0, .slice none 0 0] 25)).alloc (.cells #[.bool false, .slice none 0 0, .slice none 0 0] 25))) := ((Below.refl _ _).alloc (Nat.le_refl _) _).alloc (by simp) _
  have HX0 : Hid (Box ((w.alloc (.cells #[.bool false, .slice none 0 0, .slice none 0 0] 25)).alloc (.cells #[.bool false, .slice none 0 0, .slice none 0 0] 25)) w.heap.size false (.slice none 0 0) (.slice none 0 0)) := (Box.new w _ _ _).alloc _
  have HX1 : Hid (Box ((w.alloc (.cells #[.bool false, .slice none 0 0, .slice none 0 0] 25)).alloc (.cells #[.bool false, .slice none 0 0, .slice none 0 0] 25)) (w.heap.size + 1) false (.slice none 0 0) (.slice none 0 0)) := by
    have := Box.new (w.alloc (.cells #[.bool false, .slice none 0 0, .slice none 0 0] 25)) false (.slice none 0 0) (.slice none 0 0)
    rw [World.size_alloc] at this
    exact this
  have HBY := hide (h.below (unhide HB0))
  clear h
  go_enter Tryz.func38, Tryz.ntmps38
  go_wp2_with fail
  refine (l1Open_any a n cn _ (unhide HBY) hc hn).mono ?_
  rintro e w1 ⟨pr, rfl, hr1, hpr, hb1⟩
  have hpr2 : w.heap.size + 2 ≤ pr := by simp at hpr; omega
  have HX0' := hide ((unhide HX0).below (Nat.le_refl _) hb1)
  have HX1' := hide ((unhide HX1).below (Nat.le_refl _) hb1)
  have HB1 := hide ((unhide HB0).trans (hb1.mono (by simp; omega)))
  have HR1 := hide hr1
  clear HX0 HX1 HB0 HBY hr1 hpr hb1
  go_wp2_with fail
  refine (next_any pr _ (unhide HR1)).mono ?_
  rintro e w2 ⟨⟨kf, hkf, rfl⟩, hr2, hb2⟩
  have HX0 := hide ((unhide HX0').but hb2 (by show ¬ w.heap.size = pr; omega))
  have HX1 := hide ((unhide HX1').but hb2 (by show ¬ w.heap.size + 1 = pr; omega))
  have HB2 := hide ((unhide HB1).trans (hb2.below (unhide HB1).size (fun x hx => by omega)))
  have HR2 := hide hr2
  clear HX0' HX1' HB1 HR1 hr2 hb2
  go_wp2_with fail
  refine (next_any pr _ (unhide HR2)).mono ?_
  rintro e w3 ⟨⟨kq, hkq, rfl⟩, hr2, hb2⟩
  obtain ⟨kg, hkg, qg, qg'⟩ := modN kq 18 (by omega)
  have rg : (kq : Int).tmod 18 = (kg : Int) := qg
  have rg' : (kq : Int) % 18 = (kg : Int) := qg'
  have HY0 := hide ((unhide HX0).but hb2 (by show ¬ w.heap.size = pr; omega))
  have HY1 := hide ((unhide HX1).but hb2 (by show ¬ w.heap.size + 1 = pr; omega))
  have HB3 := hide ((unhide HB2).trans (hb2.below (unhide HB2).size (fun x hx => by omega)))
  have HR3 := hide hr2
  have hprw : pr < w3.heap.size := hr2.lt
  clear HX0 HX1 HB2 HR2 hr2 hb2 qg qg'
  go_wp2_with fail
  refine (l3Array_any pr _ (unhide HR3)).mono ?_
  rintro e w4 ⟨⟨c, a1, a2, n1, n2, c1, c2, sh, dt, rfl, o1, o2, hn1, hn2⟩, hr3, hb3⟩
  have hsz3 := hb3.size
  have hb3' := (unhide HB3).trans (hb3.below (unhide HB3).size (fun x hx => by omega))
  obtain ⟨X, hX⟩ : ∃ X, X = w4.alloc (.cells #[.bool c, .slice (some a1) n1 c1, .slice (some a2) n2 c2] 25) := ⟨_, rfl⟩
  have hKX : Below w4.heap.size w4 X := by rw [hX]; exact (Below.refl _ _).alloc (Nat.le_refl _) _
  have hlt1 : ∀ x, At (some a1) n1 x → x < w4.heap.size := fun x hx => o1.row.at_lt hx
  have hlt2 : ∀ x, At (some a2) n2 x → x < w4.heap.size := fun x hx => o2.row.at_lt hx
  have HD : Hid (DI w pr w4.heap.size c a1 a2 n1 n2 c1 c2 X) := by
    have b9 : Box X w4.heap.size c (.slice (some a1) n1 c1) (.slice (some a2) n2 c2) := by rw [hX]; exact Box.new _ _ _ _
    exact ⟨((unhide HY0).but hb3 (by show ¬ w.heap.size = pr; omega)).below (Nat.le_refl _) hKX, ((unhide HY1).but hb3 (by show ¬ w.heap.size + 1 = pr; omega)).below (Nat.le_refl _) hKX, b9, ⟨sh, (o1.below (Nat.le_refl _) hKX).mono (by omega)⟩, ⟨dt, (o2.below (Nat.le_refl _) hKX).mono (by omega)⟩, hlt1, hlt2, hr3.below hKX, hb3'.trans (hKX.mono hb3'.size), hpr2, by omega⟩
  have HXE := hide hX
  clear HY0 HY1 HB3 HR3 o1 o2 hr3 hb3 hb3' hX hKX hlt1 hlt2
  go_upto_region 5 with fail
  rw [← unhide HXE]
  clear HXE
  obtain ⟨p9, hp9⟩ : ∃ p, p = w4.heap.size := ⟨_, rfl⟩
  rw [← hp9] at HD ⊢
  clear hp9 hsz3 hprw sh dt
  have hcall := next_any pr X (unhide HD).rd
  go_upto_region 6 with (go_at_call 45; refine hcall.mono ?_; rintro e w5 ⟨⟨kk, hkk, rfl⟩, hr2, hb2⟩; have HD5 := hide ((unhide HD).next hb2 hr2); clear hr2 hb2)
  clear hcall HD
  have HD := HD5
  clear HD5
  obtain ⟨j4, hj4, q4, q4'⟩ := modN kk 4 (by omega)
  have r4 : (kk : Int).tmod 4 = (j4 : Int) := q4
  have r4' : (kk : Int) % 4 = (j4 : Int) := q4'
  clear q4 q4'
  obtain ⟨x0, x1, x2, x3, x4, x5, x6⟩ := (unhide HD).b9.all
  go_cut [38] (fun u wx => (∃ bb : Bool, u = .bool bb ∧ (bb = true → 0 < n1)) ∧ wx = w5)
  case first =>
    by_cases hj : 0 < j4
    · have g0 : decide ((0 : Int) < (j4 : Int)) = true := by simp; omega
      by_cases hk : 0 < n1
      · have g1 : decide ((0 : Int) < (n1 : Int)) = true := by simp; omega
        obtain ⟨bq, hbq⟩ : ∃ b, decide ((n1 : Int) < 4) = b := ⟨_, rfl⟩
        go_wp2_with fail
        go_meet
        case rel => exact ⟨⟨_, rfl, fun _ => hk⟩, rfl⟩
      · have g1 : decide ((0 : Int) < (n1 : Int)) = false := by simp; omega
        go_wp2_with fail
        go_meet
        case rel => exact ⟨⟨_, rfl, fun hh => by simp at hh⟩, rfl⟩
    · have g0 : decide ((0 : Int) < (j4 : Int)) = false := by simp; omega
      go_wp2_with fail
      go_meet
      case rel => exact ⟨⟨_, rfl, fun hh => by simp at hh⟩, rfl⟩
  case rest =>
  obtain ⟨⟨bb, rfl, hbb⟩, rfl⟩ := hcut
  obtain ⟨Y, hY⟩ : ∃ x, x = wc := ⟨_, rfl⟩
  subst hY
  clear r4 r4' hj4
  cases bb with
  | false =>
    clear hbb x0 x1 x2 x3 x4 x5 x6
    have h0 := (unhide HD).hp
    have h1 := (unhide HD).hq
    obtain ⟨sh, hs1⟩ := (unhide HD).o1
    obtain ⟨dt, hs2⟩ := (unhide HD).o2
    have HL1 : Hid (∀ x, At (some a1) n1 x → x ≠ pr) := fun x hx => by have := hs1.low hx; omega
    have HL2 : Hid (∀ x, At (some a2) n2 x → x ≠ pr) := fun x hx => by have := hs2.low hx; omega
    have HO1 := hide hs1.row
    have HO2 := hide hs2.row
    clear hs1 hs2
    obtain ⟨jf, hjf, qf, qf'⟩ := modN kf 18 (by omega)
    have rf : (kf : Int).tmod 18 = (jf : Int) := qf
    have rf' : (kf : Int) % 18 = (jf : Int) := qf'
    clear qf qf'
    have hKEEP : ∀ wx, But (fun x => x = pr) Y wx → wx.cell? ⟨p9, 0, none⟩ = some (.bool c) ∧ wx.cell? ⟨p9, 1, none⟩ = some (.slice (some a1) n1 c1) ∧ wx.cell? ⟨p9, 2, none⟩ = some (.slice (some a2) n2 c2) := fun wx hwx => ((unhide HD).b9.but hwx (by show ¬ p9 = pr; omega)).cells
    obtain ⟨y0, y1, y2⟩ := hKEEP _ (But.refl _ _)
    obtain ⟨z0, z1, z2, z3, z4, z5, z6⟩ := (unhide HD).b0.all
    obtain ⟨u0, u1, u2, u3, u4, u5, u6⟩ := (unhide HD).b1.all
    go_wp2_with fail
    go_region_with (go_at_call 46; refine (l3Array_any pr _ (by first | exact (unhide HD).rd | exact (unhide HD).rd.below (Below.refl _ _).drew)).mono ?_; rintro e w6 ⟨⟨d, b1, b2, m1, m2, d1, d2, sh', dt', rfl, q1, q2, hm1, hm2⟩, _, hb4⟩; have hb5 : But (fun x => x = pr) Y w6 := (by first | exact hb4 | exact ((But.of_below (Below.refl _ _).drew).trans hb4).mono (by rintro x (h | h) <;> exact h)); clear y0 y1 y2 z0 z1 z2 z3 z4 z5 z6 u0 u1 u2 u3 u4 u5 u6; obtain ⟨y0, y1, y2⟩ := hKEEP _ hb5; have HZ0 := hide ((unhide HD).b0.but hb5 (by show ¬ w.heap.size = pr; omega)); have HZ1 := hide ((unhide HD).b1.but hb5 (by show ¬ w.heap.size + 1 = pr; omega)); obtain ⟨z0, z1, z2, z3, z4, z5, z6⟩ := (unhide HZ0).all; obtain ⟨u0, u1, u2, u3, u4, u5, u6⟩ := (unhide HZ1).all; have HQ1 := hide q1.row; have HQ2 := hide q2.row; have HB5 := hide hb5; clear q1 q2 hb4 hb5)
    all_goals go_wp2_with fail
    all_goals
      have hF0 := ((((unhide HZ0).sets (c' := c) (u1 := .slice (some a1) n1 c1) (u2 := .slice (some a2) n2 c2)).other (q := ⟨w.heap.size + 1, 0, none⟩) (by simp) (.bool d)).other (q := ⟨w.heap.size + 1, 1, none⟩) (by simp) (.slice (some b1) m1 d1)).other (q := ⟨w.heap.size + 1, 2, none⟩) (by simp) (.slice (some b2) m2 d2)
      have hF1 := ((((unhide HZ1).other (q := ⟨w.heap.size, 0, none⟩) (by simp) (.bool c)).other (q := ⟨w.heap.size, 1, none⟩) (by simp) (.slice (some a1) n1 c1)).other (q := ⟨w.heap.size, 2, none⟩) (by simp) (.slice (some a2) n2 c2)).sets (c' := d) (u1 := .slice (some b1) m1 d1) (u2 := .slice (some b2) m2 d2)
      obtain ⟨t0, t1, t2, _, _, _⟩ := hF0.all
      obtain ⟨v0, v1, v2, _, _, _⟩ := hF1.all
      refine bodyPost_ret (v := .tuple #[.int .i64 (jf : Int), .int .i64 (kg : Int), .agg #[.bool c, .slice (some a1) n1 c1, .slice (some a2) n2 c2], .agg #[.bool d, .slice (some b1) m1 d1, .slice (some b2) m2 d2]]) (by simp [results, Tryz.results38, go_sem, t0, t1, t2, v0, v1, v2]) rfl ?_
      exact inner_end (drawn2_end (unhide HZ0) (unhide HZ1) ((unhide HB5).row (unhide HO1) (fun x hx hh => unhide HL1 x hh hx)) ((unhide HB5).row (unhide HO2) (fun x hx hh => unhide HL2 x hh hx)) (unhide HQ1) (unhide HQ2) hn1 hn2 hm1 hm2 ((unhide HD).low.trans ((unhide HB5).below (unhide HD).low.size (fun x hx => by omega))))
  | true =>
    have hn0 := hbb rfl
    clear hbb
    obtain ⟨sh, hs1⟩ := (unhide HD).o1
    obtain ⟨ba, oa, ea, hba, hca⟩ := hs1.row.get (k := n1 - 1) (by omega)
    cases ea
    obtain ⟨xl, hxl⟩ : ∃ x, x = sh.getD (n1 - 1) 0 := ⟨_, rfl⟩
    rw [← hxl] at hca
    have hwn : IntKind.i64.wrap ((n1 : Int) - 1) = ((n1 - 1 : Nat) : Int) := by rw [IntKind.wrap_i64]; omega
    have hnz : ((n1 - 1 : Nat) : Int) < (n1 : Int) := by omega
    clear hxl hs1
    obtain ⟨Y1, hY1⟩ : ∃ x, x = Y.alloc (.cells #[.int .i64 xl] 3) := ⟨_, rfl⟩
    obtain ⟨g0, hg0⟩ : ∃ x, x = Y.heap.size := ⟨_, rfl⟩
    have hKY : Below Y.heap.size Y Y1 := by rw [hY1]; exact (Below.refl _ _).alloc (Nat.le_refl _) _
    have hg9 : p9 < g0 := by rw [hg0]; exact (unhide HD).b9.lt
    have HG : Hid (Y1.ownsRow (pr + 1) 3 1 (.slice (some ⟨g0, 0, none⟩) 1 1) 1 [.int .i64 xl]) := by
      have h1 := (unhide HD).hq
      rw [hY1, hg0]
      exact owns_oneI Y xl (by have := (unhide HD).b9.lt; omega)
    have HD1 := hide ((unhide HD).below hKY)
    obtain ⟨jq, hjq, qq, qq'⟩ := divN kk 4
    have rq : (kk : Int).tdiv 4 = (jq : Int) := qq
    have rq' : (kk : Int) / 4 = (jq : Int) := qq'
    obtain ⟨jt, hjt, qt, qt'⟩ := modN jq 3 (by omega)
    have rt : (jq : Int).tmod 3 = (jt : Int) := qt
    have rt' : (jq : Int) % 3 = (jt : Int) := qt'
    clear qq qq' qt qt' hjq
    go_upto_region 8 with fail
    rw [← hY1, ← hg0]
    clear hY1 hg0 hKY HD hca hwn hnz x0 x1 x2 x3 x4 x5 x6
    go_wp2_with fail
    go_loopw [12, 11] (fun i s wr => ∃ (m g cap : Nat) (l : List Int), 1 ≤ m ∧ m ≤ 3 ∧ i = .int .i64 (m : Nat) ∧ s = .slice (some ⟨g, 0, none⟩) m cap ∧ p9 < g ∧ Hid (DI w pr p9 c ⟨ba, oa, none⟩ a2 n1 n2 c1 c2 wr) ∧ Hid (wr.ownsRow (pr + 1) 3 1 (.slice (some ⟨g, 0, none⟩) m cap) m (l.map (Value.int .i64)))) (fun i _ _ => 3 - (intOf i).toNat)
    case atStart => exact ⟨1, g0, 1, [xl], by omega, by omega, rfl, rfl, hg9, HD1, HG⟩
    case round =>
    clear HD1 HG
    obtain ⟨m, g, cap, l, hm1, hm3, rfl, rfl, hgp, hd, ho⟩ := hrel
    by_cases hlt : m < jt
    · have hmz : (m : Int) < (jt : Int) := by omega
      have hcall := next_any pr wr (unhide hd).rd
      have hprg : pr < g := by have := (unhide hd).hq; omega
      have hsw : pr < wr.heap.size := (unhide hd).rd.lt
      go_wp2_with (first | (go_at_call 45; refine hcall.mono ?_; rintro e w6 ⟨⟨kn, hkn, rfl⟩, hr6, hb6⟩; obtain ⟨jn, hjn, qn, qn'⟩ := modN kn 3 (by omega); have rn : (kn : Int).tmod 3 = (jn : Int) := qn; have rn' : (kn : Int) % 3 = (jn : Int) := qn'; have wn : IntKind.i64.wrap (1 + (jn : Int)) = 1 + (jn : Int) := (by rw [IntKind.wrap_i64]; omega); have HD6 := hide ((unhide hd).next hb6 hr6); have HO6 := hide (owns_but (unhide ho) hb6 (by show ¬ g = pr; omega)); have hs6 := hb6.size; clear hr6 hb6 qn qn') | (at_builtin; refine wpList_append_lies _ rfl _ _ 23 rfl (pr + 1) 3 i0 (.int .i64 0) 1 8 Tryz.underlying23 hi hz0 hz1 hz2 rfl (by decide) _ _ _ rfl (owns_below (unhide HO6) (Nat.le_refl _) ((Below.refl _ _).alloc (Nat.le_refl _) _)) ⟨w6.heap.size, 0, none⟩ 1 1 [.int .i64 (1 + (jn : Int))] rfl rfl (cells_new _ _) (one_one _) (by omega) (by unfold maxLen; omega) (by omega) (by simp; omega) (w6.heap.size + 1) (by simp) ?_; intro g' cap' w7 hown' hgrow hat hlt7; have HD7 := hide ((unhide HD6).grown (g := g) (by exact hgrow) hgp); have HO7 := hide hown'; have hg7 : p9 < g' := (by have h9 := (unhide HD6).b9.lt; rcases hat with h | h; (· have h4 := Option.some.inj (show some g = some g' from h); omega); omega); clear hown' hgrow hat hlt7))
      refine ⟨⟨m + 1, g', cap', l ++ [1 + (jn : Int)], by omega, by omega, by go_num, rfl, hg7, HD7, ?_⟩, ?_⟩
      · rw [List.map_append]; exact HO7
      · simp [intOf]; omega
    have hmz : ¬ (m : Int) < (jt : Int) := by omega
    clear hlt
    have h0 := (unhide hd).hp
    have h1 := (unhide hd).hq
    have hprg : ¬ g = pr := by omega
    obtain ⟨_, _, ev, hOg⟩ := Own.of_owns (unhide ho) (by omega)
    cases ev
    have HOG := hide hOg.row
    obtain ⟨sh2, hs1⟩ := (unhide hd).o1
    obtain ⟨dt2, hs2⟩ := (unhide hd).o2
    have HL1 : Hid (∀ x, At (some ⟨ba, oa, none⟩) n1 x → x ≠ pr) := fun x hx => by have := hs1.low hx; omega
    have HL2 : Hid (∀ x, At (some a2) n2 x → x ≠ pr) := fun x hx => by have := hs2.low hx; omega
    have HO1 := hide hs1.row
    have HO2 := hide hs2.row
    clear hs1 hs2 hOg ho
    obtain ⟨jf, hjf, qf, qf'⟩ := modN kf 16 (by omega)
    have rf : (kf : Int).tmod 16 = (jf : Int) := qf
    have rf' : (kf : Int) % 16 = (jf : Int) := qf'
    have wf : IntKind.i64.wrap (1 + (jf : Int)) = 1 + (jf : Int) := by rw [IntKind.wrap_i64]; omega
    obtain ⟨jg, hjg, qg, qg'⟩ := modN kg 16 (by omega)
    have rgg : (kg : Int).tmod 16 = (jg : Int) := qg
    have rgg' : (kg : Int) % 16 = (jg : Int) := qg'
    have wg : IntKind.i64.wrap (1 + (jg : Int)) = 1 + (jg : Int) := by rw [IntKind.wrap_i64]; omega
    obtain ⟨b240, h240⟩ : ∃ b, decide ((240 : Int) ≤ (kk : Int)) = b := ⟨_, rfl⟩
    clear qf qf' qg qg' rg rg' hkg
    have hKEEP : ∀ wx, But (fun x => x = pr) wr wx → wx.cell? ⟨p9, 0, none⟩ = some (.bool c) ∧ wx.cell? ⟨p9, 1, none⟩ = some (.slice (some ⟨ba, oa, none⟩) n1 c1) ∧ wx.cell? ⟨p9, 2, none⟩ = some (.slice (some a2) n2 c2) := fun wx hwx => ((unhide hd).b9.but hwx (by show ¬ p9 = pr; omega)).cells
    obtain ⟨y0, y1, y2⟩ := hKEEP _ (But.refl _ _)
    obtain ⟨z0, z1, z2, z3, z4, z5, z6⟩ := (unhide hd).b0.all
    obtain ⟨u0, u1, u2, u3, u4, u5, u6⟩ := (unhide hd).b1.all
    go_wp2_with fail
    go_region_with (go_at_call 102; refine (l3Of_any pr g m _ b240 l _ (by first | exact (unhide hd).rd | exact (unhide hd).rd.below (Below.refl _ _).drew) (by first | exact unhide HOG | exact (unhide HOG).below (Nat.le_refl _) (Below.refl _ _).drew) hprg).mono ?_; rintro e w6 ⟨⟨gd, m2, d2, l2, rfl, hm2, howd⟩, _, hb4⟩; have hb5 : But (fun x => x = pr) wr w6 := (by first | exact hb4 | exact ((But.of_below (Below.refl _ _).drew).trans hb4).mono (by rintro x (h | h) <;> exact h)); clear y0 y1 y2 z0 z1 z2 z3 z4 z5 z6 u0 u1 u2 u3 u4 u5 u6; obtain ⟨y0, y1, y2⟩ := hKEEP _ hb5; have HZ0 := hide ((unhide hd).b0.but hb5 (by show ¬ w.heap.size = pr; omega)); have HZ1 := hide ((unhide hd).b1.but hb5 (by show ¬ w.heap.size + 1 = pr; omega)); obtain ⟨z0, z1, z2, z3, z4, z5, z6⟩ := (unhide HZ0).all; obtain ⟨u0, u1, u2, u3, u4, u5, u6⟩ := (unhide HZ1).all; obtain ⟨_, _, ev2, hOd⟩ := Own.of_owns howd (by omega); cases ev2; have HQ2 := hide hOd.row; have HQ1 := hide (hb5.row (unhide HOG) (fun x hx hh => by have := at_eq hh; omega)); have HB5 := hide hb5; clear hOd howd hb4 hb5)
    all_goals go_wp2_with fail
    all_goals
      have hF0 := ((((unhide HZ0).sets (c' := c) (u1 := .slice (some ⟨ba, oa, none⟩) n1 c1) (u2 := .slice (some a2) n2 c2)).other (q := ⟨w.heap.size + 1, 0, none⟩) (by simp) (.bool b240)).other (q := ⟨w.heap.size + 1, 1, none⟩) (by simp) (.slice (some ⟨g, 0, none⟩) m cap)).other (q := ⟨w.heap.size + 1, 2, none⟩) (by simp) (.slice (some ⟨gd, 0, none⟩) m2 d2)
      have hF1 := ((((unhide HZ1).other (q := ⟨w.heap.size, 0, none⟩) (by simp) (.bool c)).other (q := ⟨w.heap.size, 1, none⟩) (by simp) (.slice (some ⟨ba, oa, none⟩) n1 c1)).other (q := ⟨w.heap.size, 2, none⟩) (by simp) (.slice (some a2) n2 c2)).sets (c' := b240) (u1 := .slice (some ⟨g, 0, none⟩) m cap) (u2 := .slice (some ⟨gd, 0, none⟩) m2 d2)
      obtain ⟨t0, t1, t2, _, _, _⟩ := hF0.all
      obtain ⟨v0, v1, v2, _, _, _⟩ := hF1.all
      refine bodyPost_ret (v := .tuple #[.int .i64 (1 + (jf : Int)), .int .i64 (1 + (jg : Int)), .agg #[.bool c, .slice (some ⟨ba, oa, none⟩) n1 c1, .slice (some a2) n2 c2], .agg #[.bool b240, .slice (some ⟨g, 0, none⟩) m cap, .slice (some ⟨gd, 0, none⟩) m2 d2]]) (by simp [results, Tryz.results38, go_sem, t0, t1, t2, v0, v1, v2]) rfl ?_
      exact inner_end (drawn2_end (unhide HZ0) (unhide HZ1) ((unhide HB5).row (unhide HO1) (fun x hx hh => unhide HL1 x hh hx)) ((unhide HB5).row (unhide HO2) (fun x hx hh => unhide HL2 x hh hx)) (unhide HQ1) (unhide HQ2) hn1 hn2 (by omega) (by omega) ((unhide hd).low.trans ((unhide HB5).below (unhide hd).low.size (fun x hx => by omega))))

end Go.Proofs.YtgjpchnkodnieaaGreatDoor
namespace Go.Proofs.YtgjpchnkodnieaaGreatDoor
open Go.RowKit

theorem row_none {w : World} {n : Nat} {zs : List Int} (h : Row w none n zs) : n = 0 ∧ zs = [] := by
  obtain ⟨hl, _, h0 | ⟨b, off, hb, _⟩⟩ := h
  · subst h0; exact ⟨rfl, List.length_eq_zero_iff.mp hl⟩
  · cases hb

theorem run_append_nocap {P : Program} {w : World} (base : Nat) (t ty e : TypeId) (i : TypeInfo) (size : Nat) (ht : P.underlying t = some (.slice e)) (hi : P.info? e = some i)
    (v : Value) (n : Nat) (xs : List Value) (hown : w.ownsRow base e size v n xs) (c : Nat) : (Builtin.append_ #[t, t] ty #[v, .slice none 0 c]).run P w = .ok v w := by
  rcases hown.2 with ⟨rfl, rfl⟩ | ⟨g, cap, cur, rfl, _, _, hnc, _⟩
  · simp [Builtin.append_, run_underlying ht, sizeOf, typeInfo, hi, Builtin.lenOf, Builtin.firstCells]
  · simp [Builtin.append_, run_underlying ht, sizeOf, typeInfo, hi, Builtin.lenOf, Builtin.firstCells, hnc, storeCells]

theorem wpList_append_nocap {P : Program} {w : World} {ops : Array Oper} {rest : List Oper} {o : Oper} {a : Act} {Q : Exit → Act → World → Prop} (hgd : o.guard = none) (s x : Operand) (t : TypeId)
    (ho : o.op = .call { callee := .builtin .append, args := #[s, x], argTypes := #[t, t] })
    (base : Nat) (e : TypeId) (i : TypeInfo) (size : Nat) (ht : P.underlying t = some (.slice e)) (hi : P.info? e = some i)
    (v : Value) (n : Nat) (xs : List Value) (hs : a.eval s = v) (hown : w.ownsRow base e size v n xs) (k : Nat) (hk : k = 0) (c : Nat) (hx : a.eval x = .slice none k c)
    (h : wpList P ops Q rest (a.put o.dst v) w) : wpList P ops Q (o :: rest) a w := by
  subst hk
  refine wpList_plain hgd fun K hK => ?_
  have hrun := run_append_nocap (P := P) (w := w) base t o.type e i size ht hi v n xs hown c
  unfold Oper.wp
  simp [execOp, ho, resolve, invoke, builtin, hs, hx, hrun, Result.andThen]
  exact hK _ _ h

end Go.Proofs.YtgjpchnkodnieaaGreatDoor
namespace Go.Proofs.YtgjpchnkodnieaaGreatDoor
open Go.RowKit

set_option maxHeartbeats 400000 in
theorem l3Ints_nil (cap : Nat) (w : World) :
    Calls Tryz.prog 71 #[.slice none 0 cap] w fun e w' => ∃ a' cap', e = .returned (.slice a' 0 cap') ∧ Own w' w.heap.size a' 0 [] ∧ Below w.heap.size w w' := by
  obtain ⟨i0, hi, hz0, hz1, hz2⟩ := info_parts info_int
  have hown := owns_empty w
  go_enter Tryz.func71, Tryz.ntmps71
  go_wp2_with (at_builtin; refine wpList_append_nocap rfl _ _ 23 rfl w.heap.size 3 i0 1 Tryz.underlying23 hi _ 0 [] rfl hown 0 rfl cap rfl ?_)
  go_ret
  exact ⟨_, _, rfl, ⟨rfl, by omega, .inl rfl⟩, (Below.refl _ _).alloc (Nat.le_refl _) _⟩

/-- A copy of a list that may be nil. -/
theorem l3Ints_opt (ad : Option Addr) (n cap : Nat) (zs : List Int) (w : World) (h : Row w ad n zs) :
    Calls Tryz.prog 71 #[.slice ad n cap] w fun e w' => ∃ a' cap', e = .returned (.slice a' n cap') ∧ Own w' w.heap.size a' n zs ∧ Below w.heap.size w w' := by
  cases ad with
  | some a => exact l3Ints_any a n cap zs w h
  | none =>
    obtain ⟨rfl, rfl⟩ := row_none h
    exact l3Ints_nil cap w

end Go.Proofs.YtgjpchnkodnieaaGreatDoor
namespace Go.Proofs.YtgjpchnkodnieaaGreatDoor
open Go.RowKit

set_option maxHeartbeats 400000 in
theorem l3Ints_some (ad : Addr) (n cap : Nat) (zs : List Int) (w : World) (h : Row w (some ad) n zs) :
    Calls Tryz.prog 71 #[.slice (some ad) n cap] w fun e w' => ∃ g cap', e = .returned (.slice (some ⟨g, 0, none⟩) n cap') ∧ Own w' w.heap.size (some ⟨g, 0, none⟩) n zs ∧ Below w.heap.size w w' := by
  have hl := h.len
  have hs := h.small
  have H := hide h
  clear h
  obtain ⟨i0, hi, hz0, hz1, hz2⟩ := info_parts info_int
  go_enter Tryz.func71, Tryz.ntmps71
  go_wp2_with (at_builtin; refine wpList_append_own _ rfl _ _ 23 rfl w.heap.size 3 i0 (.int .i64 0) 1 8 Tryz.underlying23 hi hz0 hz1 hz2 rfl (by decide) _ _ _ rfl (owns_empty w) ad n cap (zs.map (Value.int .i64)) rfl (by simpa using hl) (cells_ints ((unhide H).alloc _)) (one_ints zs) (by unfold maxLen; omega) (by omega) (by simp) ?_; intro v1 w1 hown hgrow hnil)
  have hown' : w1.ownsRow w.heap.size 3 1 v1 n (zs.map (Value.int .i64)) := by simpa using hown
  have hsome : ∃ g cap', v1 = .slice (some ⟨g, 0, none⟩) n cap' := by
    rcases hown'.2 with ⟨e, _⟩ | ⟨g, c', cur, e, _⟩
    · have := (hnil.mp e).1
      cases this
    · exact ⟨g, c', e⟩
  obtain ⟨g, cap', rfl⟩ := hsome
  obtain ⟨a', cap'', hv, ho⟩ := Own.of_owns hown' hs
  cases hv
  have hbel : Below w.heap.size w w1 := ((Below.refl _ _).alloc (Nat.le_refl _) _).grown hgrow (by simp) (by intro k hk; cases hk; exact Nat.le_refl _)
  clear hown hgrow hnil
  go_wp2
  go_ret
  exact ⟨_, _, rfl, ho, hbel⟩

end Go.Proofs.YtgjpchnkodnieaaGreatDoor
namespace Go.Proofs.YtgjpchnkodnieaaGreatDoor

/-- A matrix of the elements. -/
theorem mat_ok {c : Bool} {sh dt : List Int} (h : arrOk c sh dt = true) {R C : Nat} (hR : (R : Int) ≤ 10000) (hC : (C : Int) ≤ 10000) (hp : (R : Int) * (C : Int) = prodAll sh) : arrOk c [(R : Int), (C : Int)] dt = true := by
  obtain ⟨hin, hpa, _⟩ := shapeIn_of h
  have hb := hin.bd
  rw [hpa] at hp hb
  unfold arrOk at h ⊢
  simp only [Bool.and_eq_true, decide_eq_true_eq] at h ⊢
  refine ⟨by simp, ?_, h.2.2⟩
  have a1 : inCells (R : Int) = true := by simp [inCells]; omega
  have a2 : inCells (C : Int) = true := by simp [inCells]; omega
  have hall : [(R : Int), (C : Int)].all inCells = true := by simp [a1, a2]
  have hp1 : ∃ m, prodFrom [(R : Int), (C : Int)] 1 = some m := by
    simp only [prodFrom, Int.one_mul]
    split
    · split
      · exact ⟨_, rfl⟩
      · rw [if_neg (by omega)]; exact ⟨_, rfl⟩
    · rw [if_neg (show ¬ 10000 < (R : Int) by omega)]
      split
      · exact ⟨_, rfl⟩
      · rw [if_neg (by omega)]; exact ⟨_, rfl⟩
  obtain ⟨m, hm⟩ := hp1
  have hs := prodAll_count _ (shape_good rfl (by simp) m hall hm)
  rw [← hs]
  simp only [prodAll, List.foldl_cons, List.foldl_nil, Int.one_mul]
  exact hp

/-- The rows and columns after k numbers of a shape. -/
def matR (sh : List Int) (k : Nat) : Int := prodAll (sh.take (min k (sh.length - 1)))
def matC (sh : List Int) (k : Nat) : Int := if k = sh.length ∧ 0 < sh.length then sh.getD (sh.length - 1) 0 else 1

theorem mat_zero (sh : List Int) : matR sh 0 = 1 ∧ matC sh 0 = 1 := by
  refine ⟨by simp [matR, prodAll], ?_⟩
  unfold matC
  rw [if_neg (by omega)]
theorem mat_mid {sh : List Int} {k : Nat} (h : k + 1 < sh.length) : matR sh (k + 1) = matR sh k * sh.getD k 0 ∧ matC sh (k + 1) = matC sh k := by
  refine ⟨?_, ?_⟩
  · unfold matR
    rw [show min (k + 1) (sh.length - 1) = k + 1 by omega, show min k (sh.length - 1) = k by omega]
    exact prodAll_snoc sh k (by omega)
  · unfold matC; rw [if_neg (by omega), if_neg (by omega)]
theorem mat_last {sh : List Int} {k : Nat} (h : k + 1 = sh.length) : matR sh (k + 1) = matR sh k ∧ matC sh (k + 1) = sh.getD k 0 := by
  refine ⟨?_, ?_⟩
  · unfold matR; congr 2; omega
  · unfold matC; rw [if_pos (by omega), show sh.length - 1 = k by omega]
theorem mat_bd {c : Bool} {sh dt : List Int} (h : arrOk c sh dt = true) (k : Nat) : (0 ≤ matR sh k ∧ matR sh k ≤ 10000) ∧ (0 ≤ matC sh k ∧ matC sh k ≤ 10000) := by
  obtain ⟨hin, _, _⟩ := shapeIn_of h
  refine ⟨(hin.take _).bd, ?_⟩
  unfold matC
  split
  · exact hin.cell _
  · omega
theorem mat_all (sh : List Int) : matR sh sh.length * matC sh sh.length = prodAll sh := by
  unfold matR matC
  rw [show min sh.length (sh.length - 1) = sh.length - 1 by omega]
  by_cases h : 0 < sh.length
  · rw [if_pos ⟨rfl, h⟩]
    have := prodAll_snoc sh (sh.length - 1) (by omega)
    rw [show sh.length - 1 + 1 = sh.length by omega, List.take_length] at this
    exact this.symm
  · rw [if_neg (by omega)]
    have : sh = [] := List.length_eq_zero_iff.1 (by omega)
    subst this
    simp [prodAll]

end Go.Proofs.YtgjpchnkodnieaaGreatDoor
namespace Go.Proofs.YtgjpchnkodnieaaGreatDoor

def front (sh : List Int) : List Int := sh.take (sh.length - 1)
def last (sh : List Int) : Int := sh.getD (sh.length - 1) 0

/-- The shape of an array as Catenate takes it beside another. -/
def sideSh (sh sh' : List Int) : List Int := if sh = [] then front sh' ++ [1] else if sh.length + 1 = sh'.length then sh ++ [1] else sh
def sideDt (sh dt sh' : List Int) : List Int := if sh = [] then List.replicate (countOf (sideSh sh sh')).toNat (dt.getD 0 0) else dt

/-- k rows, each of m elements of one list and of n of another. -/
def catN (x y : List Int) (m n : Nat) : Nat → List Int
  | 0 => []
  | k + 1 => catN x y m n k ++ (x.drop (k * m)).take m ++ (y.drop (k * n)).take n

def catenate (c d : Bool) (sh dt sh' dt' : List Int) : Ans :=
  if arrOk c sh dt = true ∧ arrOk d sh' dt' = true then
    if (sideSh sh sh').length ≠ (sideSh sh' sh).length then noAns 4
    else if front (sideSh sh sh') ≠ front (sideSh sh' sh) then noAns 5
    else if c ≠ d ∧ sideDt sh dt sh' ≠ [] ∧ sideDt sh' dt' sh ≠ [] then noAns 3
    else if shapeB (front (sideSh sh sh') ++ [last (sideSh sh sh') + last (sideSh sh' sh)]) = false then noAns 7
    else ⟨if sideDt sh dt sh' = [] ∧ sideDt sh' dt' sh ≠ [] then d else c, front (sideSh sh sh') ++ [last (sideSh sh sh') + last (sideSh sh' sh)],
      catN (sideDt sh dt sh') (sideDt sh' dt' sh) (last (sideSh sh sh')).toNat (last (sideSh sh' sh)).toNat (prodAll (front (sideSh sh sh'))).toNat, 0⟩
  else noAns 3

section
variable {c d : Bool} {sh dt sh' dt' : List Int}
theorem cat_bad1 (h : arrOk c sh dt = false) : catenate c d sh dt sh' dt' = noAns 3 := by unfold catenate; rw [if_neg (by simp [h])]
theorem cat_bad2 (h : arrOk d sh' dt' = false) : catenate c d sh dt sh' dt' = noAns 3 := by unfold catenate; rw [if_neg (by simp [h])]
theorem cat_rank (h1 : arrOk c sh dt = true) (h2 : arrOk d sh' dt' = true) (h : (sideSh sh sh').length ≠ (sideSh sh' sh).length) : catenate c d sh dt sh' dt' = noAns 4 := by
  unfold catenate; rw [if_pos ⟨h1, h2⟩, if_pos h]
variable {L R x y : List Int}
theorem cat_len (h1 : arrOk c sh dt = true) (h2 : arrOk d sh' dt' = true) (hL : sideSh sh sh' = L) (hR : sideSh sh' sh = R) (h : L.length = R.length) (hf : front L ≠ front R) : catenate c d sh dt sh' dt' = noAns 5 := by
  unfold catenate; rw [if_pos ⟨h1, h2⟩, hL, hR, if_neg (by simp [h]), if_pos hf]
theorem cat_dom (h1 : arrOk c sh dt = true) (h2 : arrOk d sh' dt' = true) (hL : sideSh sh sh' = L) (hR : sideSh sh' sh = R) (hx : sideDt sh dt sh' = x) (hy : sideDt sh' dt' sh = y) (h : L.length = R.length) (hf : front L = front R) (hd : c ≠ d ∧ x ≠ [] ∧ y ≠ []) : catenate c d sh dt sh' dt' = noAns 3 := by
  unfold catenate; rw [if_pos ⟨h1, h2⟩, hL, hR, hx, hy, if_neg (by simp [h]), if_neg (by simp [hf]), if_pos hd]
theorem cat_big (h1 : arrOk c sh dt = true) (h2 : arrOk d sh' dt' = true) (hL : sideSh sh sh' = L) (hR : sideSh sh' sh = R) (hx : sideDt sh dt sh' = x) (hy : sideDt sh' dt' sh = y) (h : L.length = R.length) (hf : front L = front R) (hd : ¬ (c ≠ d ∧ x ≠ [] ∧ y ≠ [])) (hz : shapeB (front L ++ [last L + last R]) = false) : catenate c d sh dt sh' dt' = noAns 7 := by
  unfold catenate; rw [if_pos ⟨h1, h2⟩, hL, hR, hx, hy, if_neg (by simp [h]), if_neg (by simp [hf]), if_neg hd, if_pos hz]
theorem cat_go (h1 : arrOk c sh dt = true) (h2 : arrOk d sh' dt' = true) (hL : sideSh sh sh' = L) (hR : sideSh sh' sh = R) (hx : sideDt sh dt sh' = x) (hy : sideDt sh' dt' sh = y) (h : L.length = R.length) (hf : front L = front R) (hd : ¬ (c ≠ d ∧ x ≠ [] ∧ y ≠ [])) (hz : shapeB (front L ++ [last L + last R]) = true) :
    catenate c d sh dt sh' dt' = ⟨if x = [] ∧ y ≠ [] then d else c, front L ++ [last L + last R], catN x y (last L).toNat (last R).toNat (prodAll (front L)).toNat, 0⟩ := by
  unfold catenate; rw [if_pos ⟨h1, h2⟩, hL, hR, hx, hy, if_neg (by simp [h]), if_neg (by simp [hf]), if_neg hd, if_neg (by simp [hz])]
end

theorem shapeIn_snoc1 {l : List Int} (h : ShapeIn l) : ShapeIn (l ++ [1]) := by
  obtain ⟨ha, m, hm⟩ := h
  refine ⟨by rw [List.all_append, ha]; rfl, m, ?_⟩
  have key : ∀ (l : List Int) (n : Int), 1 ≤ n → n ≤ 10000 → l.all inCells = true → ∀ m, prodFrom l n = some m → prodFrom (l ++ [1]) n = some m := by
    intro l
    induction l with
    | nil => intro n h1 h2 _ m hm; simp only [prodFrom] at hm ⊢; simp [prodFrom]; cases hm; omega
    | cons x r ih =>
      intro n h1 h2 hl m hm
      simp only [List.all_cons, Bool.and_eq_true] at hl
      have hx : 0 ≤ x ∧ x ≤ 10000 := by simpa [inCells] using hl.1
      simp only [prodFrom, List.cons_append] at hm ⊢
      by_cases h0 : x = 0
      · rw [if_pos h0] at hm ⊢; exact ih n h1 h2 hl.2 m hm
      · rw [if_neg h0] at hm ⊢
        split at hm
        · cases hm
        · rename_i hle
          rw [if_neg hle]
          have : 1 * 1 ≤ n * x := Int.mul_le_mul h1 (by omega) (by omega) (by omega)
          exact ih _ (by omega) (by omega) hl.2 m hm
  exact key l 1 (by omega) (by omega) ha m hm

theorem front_snoc (l : List Int) (x : Int) : front (l ++ [x]) = l := by simp [front]
theorem last_snoc (l : List Int) (x : Int) : last (l ++ [x]) = x := by simp [last]
theorem front_last {l : List Int} (h : l ≠ []) : l = front l ++ [last l] := by
  have hl : 0 < l.length := List.length_pos_iff.mpr h
  unfold front last
  have := List.take_append_drop (l.length - 1) l
  have e : l.drop (l.length - 1) = [l.getD (l.length - 1) 0] := by
    rw [List.drop_eq_getElem_cons (by omega)]
    simp [List.getD, show l.length - 1 < l.length by omega, show l.length - 1 + 1 = l.length by omega]
  rw [e] at this
  exact this.symm

/-- The array as it is taken has a valid shape. -/
theorem side_in {c d : Bool} {sh dt sh' dt' : List Int} (h1 : arrOk c sh dt = true) (h2 : arrOk d sh' dt' = true) : ShapeIn (sideSh sh sh') ∧ (sideSh sh sh').length ≤ 5 ∧ 0 < (sideSh sh sh').length ∧ prodAll (sideSh sh sh') = (sideDt sh dt sh').length := by
  obtain ⟨i1, p1, l1⟩ := shapeIn_of h1
  obtain ⟨i2, p2, l2⟩ := shapeIn_of h2
  unfold sideDt
  by_cases e : sh = []
  · have hs : sideSh sh sh' = front sh' ++ [1] := by unfold sideSh; rw [if_pos e]
    have hi : ShapeIn (front sh' ++ [1]) := shapeIn_snoc1 (i2.take _)
    have hl : (front sh' ++ [1]).length ≤ 5 := by simp [front]; omega
    rw [if_pos e, hs]
    refine ⟨hi, hl, by simp, ?_⟩
    have hb : shapeB (front sh' ++ [1]) = true := by
      obtain ⟨ha, m, hm⟩ := hi
      exact shape_good (n := (front sh' ++ [1]).length) rfl hl m ha hm
    have hc := prodAll_count _ hb
    have hn := hi.bd.1
    simp
    omega
  · rw [if_neg e]
    unfold sideSh
    rw [if_neg e]
    by_cases e2 : sh.length + 1 = sh'.length
    · rw [if_pos e2]
      refine ⟨shapeIn_snoc1 i1, by simp; omega, by simp, ?_⟩
      rw [prodAll_append, p1]; simp [prodAll]
    · rw [if_neg e2]
      exact ⟨i1, l1, List.length_pos_iff.mpr e, p1⟩

end Go.Proofs.YtgjpchnkodnieaaGreatDoor
namespace Go.Proofs.YtgjpchnkodnieaaGreatDoor
open Go.RowKit

/-- k elements have been gathered into the array in box p. -/
structure Stage (w2 : World) (p : Nat) (c : Bool) (ash : Option Addr) (m csh : Nat) (zs : List Int) (f : Nat → Int × Int) (k : Nat) (wr : World) (g cap : Nat) : Prop where
  box : Box wr p c (.slice ash m csh) (.slice (some ⟨g, 0, none⟩) k cap)
  owns : wr.ownsRow w2.heap.size 3 1 (.slice (some ⟨g, 0, none⟩) k cap) k ((vals f k).map (Value.int .i64))
  own : Own wr w2.heap.size ash m zs
  ne : ∀ x, At ash m x → x ≠ g
  low : Below w2.heap.size w2 wr
  code : firstCode f k = 0
  place : w2.heap.size ≤ p

theorem Stage.start {w2 wx : World} {p g : Nat} {c : Bool} {ash : Option Addr} {m csh : Nat} {zs : List Int} (f : Nat → Int × Int) (h1 : Box wx p c (.slice ash m csh) (.slice (some ⟨g, 0, none⟩) 0 0)) (h2 : Blk wx g []) (h3 : Own wx w2.heap.size ash m zs) (h4 : Below w2.heap.size w2 wx) (h7 : w2.heap.size ≤ p) (h5 : w2.heap.size ≤ g) (h6 : ∀ x, At ash m x → x ≠ g) : Stage w2 p c ash m csh zs f 0 wx g 0 :=
  ⟨h1, h2.owns h5, h3, h6, h4, rfl, h7⟩

theorem Stage.below {w2 wr w5 : World} {p g cap k : Nat} {c : Bool} {ash : Option Addr} {m csh : Nat} {zs : List Int} {f : Nat → Int × Int} (h : Stage w2 p c ash m csh zs f k wr g cap) (hb : Below wr.heap.size wr w5) : Stage w2 p c ash m csh zs f k w5 g cap :=
  ⟨h.box.below (Nat.le_refl _) hb, owns_below h.owns (Nat.le_refl _) hb, h.own.below (Nat.le_refl _) hb, h.ne, h.low.trans (hb.mono h.low.size), h.code, h.place⟩

theorem Stage.drew {w2 wr : World} {p g cap k : Nat} {c : Bool} {ash : Option Addr} {m csh : Nat} {zs : List Int} {f : Nat → Int × Int} (h : Stage w2 p c ash m csh zs f k wr g cap) : Stage w2 p c ash m csh zs f k wr.drew g cap := h.below (Below.refl _ _).drew

theorem Stage.push {w2 w5 w6 : World} {p g g' cap cap' k : Nat} {c : Bool} {ash : Option Addr} {m csh : Nat} {zs : List Int} {f : Nat → Int × Int} {r1 : Int} (o : Obj) (h : Stage w2 p c ash m csh zs f k w5 g cap) (hf : f k = (r1, 0))
    (hown : w6.ownsRow w2.heap.size 3 1 (.slice (some ⟨g', 0, none⟩) (k + 1) cap') (k + 1) ((vals f k).map (Value.int .i64) ++ [.int .i64 r1])) (hg : (w5.alloc o).grownBy w6 (Value.ownBlock (.slice (some ⟨g, 0, none⟩) k cap))) (hat : Value.ownBlock (.slice (some ⟨g, 0, none⟩) k cap) = some g' ∨ g' = w5.heap.size + 1) :
    Box w6 p c (.slice ash m csh) (.slice (some ⟨g, 0, none⟩) k cap) ∧ Stage w2 p c ash m csh zs f (k + 1) (w6.setCell ⟨p, 2, none⟩ (.slice (some ⟨g', 0, none⟩) (k + 1) cap')) g' cap' := by
  have hb6 := h.box.grown h.owns o hg
  have hg' : (w5.alloc o).grownBy w6 (some g) := hg
  have ho6 := h.own.grown o hg' h.ne
  have hlow := h.low.trans (below_append o h.owns h.low.size hg)
  have hne' : ∀ x, At ash m x → x ≠ g' := by
    intro x hx
    rcases hat with e | e
    · have e' : g = g' := by simpa [Value.ownBlock] using e
      rw [← e']; exact h.ne x hx
    · have := h.own.row.hi hx; omega
  refine ⟨hb6, hb6.set2 _, ?_, ho6.other (fun x hx => ho6.row.notBox hb6 hx) _, hne', hlow.setCell h.place _, code_step h.code (by rw [hf]), h.place⟩
  · rw [vals_snoc, hf]
    exact owns_box_set hown hb6 _ _

end Go.Proofs.YtgjpchnkodnieaaGreatDoor
namespace Go.Proofs.YtgjpchnkodnieaaGreatDoor
open Go.RowKit

section
variable {P : Program} (w : World)

/-- append of whatever number of elements to a slice that is there. -/
theorem run_append_some (t ty : TypeId) (base : Nat) (e : TypeId) (i : TypeInfo) (z : Value) (size bytes : Nat) (ht : P.underlying t = some (.slice e)) (hi : P.info? e = some i) (hz : i.zero = some z)
    (hsize : i.size = size) (hby : i.bytes = bytes) (hzs : z.cells.size = size) (hsz : 0 < size)
    (g0 n cap0 : Nat) (xs : List Value) (hown : w.ownsRow base e size (.slice (some ⟨g0, 0, none⟩) n cap0) n xs)
    (ad : Addr) (m c : Nat) (news : List Value) (hl : news.length = m * size) (hnews : ∀ j u, news[j]? = some u → w.cell? (ad.add j) = some u) (h1 : ∀ u ∈ news, u.oneCell' = true)
    (h63 : n + m ≤ maxLen) (hbytes : (n + m) * bytes ≤ 140737488355328) (hbase : base ≤ w.heap.size) :
    ∃ g cap w', (Builtin.append_ #[t, t] ty #[.slice (some ⟨g0, 0, none⟩) n cap0, .slice (some ad) m c]).run P w = .ok (.slice (some ⟨g, 0, none⟩) (n + m) cap) w' ∧
      w'.ownsRow base e size (.slice (some ⟨g, 0, none⟩) (n + m) cap) (n + m) (xs ++ news) ∧ w.grownBy w' (some g0) ∧ (g = g0 ∨ g = w.heap.size) := by
  obtain ⟨v', w', hr, h2, h3, h4, h5⟩ := run_append_own_at (P := P) w base t ty e i z size bytes ht hi hz hsize hby hzs hsz _ n xs hown ad m c news hl hnews h1 h63 hbytes hbase
  have hf : ∃ g cap, v' = .slice (some ⟨g, 0, none⟩) (n + m) cap := by
    rcases h2.2 with ⟨e0, e1⟩ | ⟨g, cap, cur, hv, _⟩
    · exact absurd (h4.1 e0).1 (by simp)
    · exact ⟨g, cap, hv⟩
  obtain ⟨g, cap, rfl⟩ := hf
  refine ⟨g, cap, w', hr, h2, h3, ?_⟩
  rcases h5 with h5 | h5
  · left; simpa [Value.ownBlock] using h5
  · right; simpa [Value.ownBlock] using h5

theorem wp_append_some {o : Oper} {a : Act} {K : Act → World → Prop} {Q : Exit → Act → World → Prop} (s x : Operand) (t : TypeId)
    (ho : o.op = .call { callee := .builtin .append, args := #[s, x], argTypes := #[t, t] })
    (base : Nat) (e : TypeId) (i : TypeInfo) (z : Value) (size bytes : Nat) (ht : P.underlying t = some (.slice e)) (hi : P.info? e = some i) (hz : i.zero = some z)
    (hsize : i.size = size) (hby : i.bytes = bytes) (hzs : z.cells.size = size) (hsz : 0 < size)
    (g0 n cap0 : Nat) (xs : List Value) (hs : a.eval s = .slice (some ⟨g0, 0, none⟩) n cap0) (hown : w.ownsRow base e size (.slice (some ⟨g0, 0, none⟩) n cap0) n xs)
    (ad : Addr) (m c : Nat) (news : List Value) (hx : a.eval x = .slice (some ad) m c) (hl : news.length = m * size) (hnews : ∀ j u, news[j]? = some u → w.cell? (ad.add j) = some u) (h1 : ∀ u ∈ news, u.oneCell' = true)
    (h63 : n + m ≤ maxLen) (hbytes : (n + m) * bytes ≤ 140737488355328) (hbase : base ≤ w.heap.size)
    (h : ∀ g cap w', w'.ownsRow base e size (.slice (some ⟨g, 0, none⟩) (n + m) cap) (n + m) (xs ++ news) → w.grownBy w' (some g0) → (g = g0 ∨ g = w.heap.size) → K (a.put o.dst (.slice (some ⟨g, 0, none⟩) (n + m) cap)) w') : o.wp P a w K Q := by
  obtain ⟨g, cap, w', hr, h2, h3, h4⟩ := run_append_some (P := P) w t o.type base e i z size bytes ht hi hz hsize hby hzs hsz g0 n cap0 xs hown ad m c news hl hnews h1 h63 hbytes hbase
  unfold Oper.wp execOp
  simp only [ho, resolve, invoke, builtin, Sem.run_bind, Sem.run_pure, Result.andThen_ok, List.map_toArray, List.map_cons, List.map_nil, hs, hx, hr]
  exact h g cap w' h2 h3 h4

theorem step_append_some {ops : Array Oper} {o : Oper} {a : Act} {K : Act → World → Prop} {Q : Exit → Act → World → Prop} {E : Prop} (hgd : o.guard = none) (s x : Operand) (t : TypeId)
    (ho : o.op = .call { callee := .builtin .append, args := #[s, x], argTypes := #[t, t] })
    (base : Nat) (e : TypeId) (i : TypeInfo) (z : Value) (size bytes : Nat) (ht : P.underlying t = some (.slice e)) (hi : P.info? e = some i) (hz : i.zero = some z)
    (hsize : i.size = size) (hby : i.bytes = bytes) (hzs : z.cells.size = size) (hsz : 0 < size)
    (g0 n cap0 : Nat) (xs : List Value) (hs : a.eval s = .slice (some ⟨g0, 0, none⟩) n cap0) (hown : w.ownsRow base e size (.slice (some ⟨g0, 0, none⟩) n cap0) n xs)
    (ad : Addr) (m c : Nat) (news : List Value) (hx : a.eval x = .slice (some ad) m c) (hl : news.length = m * size) (hnews : ∀ j u, news[j]? = some u → w.cell? (ad.add j) = some u) (h1 : ∀ u ∈ news, u.oneCell' = true)
    (h63 : n + m ≤ maxLen) (hbytes : (n + m) * bytes ≤ 140737488355328) (hbase : base ≤ w.heap.size)
    (h : ∀ g cap w', w'.ownsRow base e size (.slice (some ⟨g, 0, none⟩) (n + m) cap) (n + m) (xs ++ news) → w.grownBy w' (some g0) → (g = g0 ∨ g = w.heap.size) → K (a.put o.dst (.slice (some ⟨g, 0, none⟩) (n + m) cap)) w') :
    if Region.wanted o (yielded ops a.tmps) = true then Oper.wp P o a w K Q else E := by
  have hw : Region.wanted o (yielded ops a.tmps) = true := by simp [Region.wanted, hgd]
  rw [if_pos hw]
  exact wp_append_some w s x t ho base e i z size bytes ht hi hz hsize hby hzs hsz g0 n cap0 xs hs hown ad m c news hx hl hnews h1 h63 hbytes hbase h

end

theorem Box.grown0 {w w1 : World} {p base n g cap : Nat} {c : Bool} {v1 v2 : Value} {xs : List Value} (h : Box w p c v1 v2) (hown : w.ownsRow base 3 1 (.slice (some ⟨g, 0, none⟩) n cap) n xs) (hg : w.grownBy w1 (some g)) : Box w1 p c v1 v2 := by
  refine (hg.block p h.lt ?_).trans h
  rcases hown.2 with ⟨e, _⟩ | ⟨g', cap', cur, e, _, hh, _⟩
  · cases e
  · cases e
    intro e
    cases e
    unfold Box at h
    rw [h] at hh
    have := congrArg (fun o => match o with | some (.cells _ t _) => t | _ => 0) hh
    simp at this

theorem Own.grown0 {w w1 : World} {B g n : Nat} {a : Option Addr} {zs : List Int} (h : Own w B a n zs) (hg : w.grownBy w1 (some g)) (hne : ∀ x, At a n x → x ≠ g) : Own w1 B a n zs := by
  refine ⟨h.len, h.small, ?_⟩
  rcases h.at_ with h0 | ⟨b, off, rfl, hb, hlt, hc, hf⟩
  · exact .inl h0
  · by_cases hn : n = 0
    · exact .inl hn
    have hk : w1.heap[b]? = w.heap[b]? := hg.block b hlt (fun e => hne b (at_self hn) (by simpa using e))
    refine .inr ⟨b, off, rfl, hb, Nat.lt_of_lt_of_le hlt hg.size, fun i hi => ?_, fun i hi => ?_⟩
    · exact (World.cell?_of_block hk).trans (hc i hi)
    · exact (World.frozen?_of_block hk).trans (hf i hi)

/-- An array in box p, its elements so far l. -/
structure Gat (w2 : World) (p : Nat) (c : Bool) (ash : Option Addr) (m csh : Nat) (zs l : List Int) (n : Nat) (wr : World) (g cap : Nat) : Prop where
  box : Box wr p c (.slice ash m csh) (.slice (some ⟨g, 0, none⟩) n cap)
  owns : wr.ownsRow w2.heap.size 3 1 (.slice (some ⟨g, 0, none⟩) n cap) n (l.map (Value.int .i64))
  own : Own wr w2.heap.size ash m zs
  ne : ∀ x, At ash m x → x ≠ g
  low : Below w2.heap.size w2 wr
  place : w2.heap.size ≤ p

theorem Gat.len {w2 wr : World} {p g cap n : Nat} {c : Bool} {ash : Option Addr} {m csh : Nat} {zs l : List Int} (h : Gat w2 p c ash m csh zs l n wr g cap) : l.length = n := by
  have := h.owns.1
  simpa using this

theorem Gat.drew {w2 wr : World} {p g cap n : Nat} {c : Bool} {ash : Option Addr} {m csh : Nat} {zs l : List Int} (h : Gat w2 p c ash m csh zs l n wr g cap) : Gat w2 p c ash m csh zs l n wr.drew g cap :=
  have hb : Below wr.heap.size wr wr.drew := (Below.refl _ _).drew
  ⟨h.box.below (Nat.le_refl _) hb, owns_below h.owns (Nat.le_refl _) hb, h.own.below (Nat.le_refl _) hb, h.ne, h.low.trans (hb.mono h.low.size), h.place⟩

theorem Gat.push {w2 w5 w6 : World} {p g g' cap cap' n k : Nat} {c : Bool} {ash : Option Addr} {m csh : Nat} {zs l r : List Int} (h : Gat w2 p c ash m csh zs l n w5 g cap)
    (hown : w6.ownsRow w2.heap.size 3 1 (.slice (some ⟨g', 0, none⟩) (n + k) cap') (n + k) (l.map (Value.int .i64) ++ r.map (Value.int .i64))) (hg : w5.grownBy w6 (some g)) (hat : g' = g ∨ g' = w5.heap.size) :
    (Box w6 p c (.slice ash m csh) (.slice (some ⟨g, 0, none⟩) n cap) ∧ Below w2.heap.size w2 w6) ∧ Gat w2 p c ash m csh zs (l ++ r) (n + k) (w6.setCell ⟨p, 2, none⟩ (.slice (some ⟨g', 0, none⟩) (n + k) cap')) g' cap' := by
  have hb6 := h.box.grown0 h.owns hg
  have ho6 := h.own.grown0 hg h.ne
  have hge : w2.heap.size ≤ g := by
    rcases h.owns.2 with ⟨e, _⟩ | ⟨g1, _, _, e, hb, _⟩
    · cases e
    · cases e; exact hb
  have hlow : Below w2.heap.size w2 w6 := h.low.grown hg h.low.size (by intro k hk; cases hk; exact hge)
  have hne' : ∀ x, At ash m x → x ≠ g' := by
    intro x hx
    rcases hat with e | e
    · rw [e]; exact h.ne x hx
    · have := h.own.row.hi hx; omega
  refine ⟨⟨hb6, hlow⟩, hb6.set2 _, ?_, ho6.other (fun x hx => ho6.row.notBox hb6 hx) _, hne', hlow.setCell h.place _, h.place⟩
  rw [List.map_append]
  exact owns_box_set hown hb6 _ _

theorem addr_plus (b o k : Nat) : (⟨b, o, none⟩ : Addr).add k = ⟨b, o + k, none⟩ := by
  unfold Addr.add
  split
  · simp
  · rfl

/-- What a statement reads that appends to the array's elements. -/
theorem holds_of {wx : World} {p b : Nat} {c d : Bool} {v1 v2 u1 u2 : Value} (h : Box wx p c v1 v2) (hb : Box wx b d u1 u2) : wx.cell? ⟨p, 2, none⟩ = some v2 ∧ wx.cell? ⟨b, 2, none⟩ = some u2 ∧ wx.frozen? ⟨p, 2, none⟩ = false := by
  obtain ⟨x0, x1, x2, x3, x4, x5, x6⟩ := h.all
  exact ⟨x2, hb.cells.2.2, by assumption⟩

theorem Gat.holds {w2 wr : World} {p g cap n b : Nat} {c d : Bool} {ash : Option Addr} {m csh : Nat} {zs l : List Int} {u1 u2 : Value} (h : Gat w2 p c ash m csh zs l n wr g cap) (hb : Box wr b d u1 u2) : wr.cell? ⟨p, 2, none⟩ = some (.slice (some ⟨g, 0, none⟩) n cap) ∧ wr.cell? ⟨b, 2, none⟩ = some u2 ∧ wr.frozen? ⟨p, 2, none⟩ = false := holds_of h.box hb

theorem Gat.grew {w2 w5 w6 : World} {p g cap n : Nat} {c : Bool} {ash : Option Addr} {m csh : Nat} {zs l : List Int} (h : Gat w2 p c ash m csh zs l n w5 g cap) (hg : w5.grownBy w6 (some g)) :
    Box w6 p c (.slice ash m csh) (.slice (some ⟨g, 0, none⟩) n cap) ∧ Below w2.heap.size w2 w6 := by
  have hge : w2.heap.size ≤ g := by
    rcases h.owns.2 with ⟨e, _⟩ | ⟨g1, _, _, e, hb, _⟩
    · cases e
    · cases e; exact hb
  exact ⟨h.box.grown0 h.owns hg, h.low.grown hg h.low.size (by intro k hk; cases hk; exact hge)⟩

/-- The cells of a piece of a row. -/
theorem sub_cells {w : World} {a : Addr} {n u m : Nat} {zs : List Int} (h : Row w (some a) n zs) (hu : u + m ≤ n) : ∀ (j : Nat) v, (((zs.drop u).take m).map (Value.int .i64))[j]? = some v → w.cell? ((a.add u).add j) = some v := by
  intro j v hj
  have hlen := h.len
  have hjm : j < m := by
    rcases Nat.lt_or_ge j m with h' | h'
    · exact h'
    · rw [List.getElem?_eq_none (by simp; omega)] at hj; cases hj
  obtain ⟨b, o, e, _, _⟩ := h.get (show 0 < n by omega)
  cases e
  have hc := cells_ints h (u + j) v (by
    rw [← hj]
    simp only [List.getElem?_map, List.getElem?_take_of_lt hjm, List.getElem?_drop])
  rw [addr_plus] at hc
  rw [addr_plus, addr_plus, Nat.add_assoc]
  exact hc

theorem sub_cells' {w : World} {a A : Addr} {n u m e : Nat} {zs : List Int} (hA : (if e = u then some a else some (a.add u)) = some A) (h : Row w (some a) n zs) (hu : u + m ≤ n) (hn : n ≤ e) : ∀ (j : Nat) v, (((zs.drop u).take m).map (Value.int .i64))[j]? = some v → w.cell? (A.add j) = some v := by
  by_cases he : e = u
  · intro j v hj
    have : m = 0 := by omega
    subst this
    simp at hj
  · rw [if_neg he] at hA
    cases hA
    exact sub_cells h hu

theorem sub_len {n u m : Nat} {zs : List Int} (h : zs.length = n) (hu : u + m ≤ n) : (((zs.drop u).take m).map (Value.int .i64)).length = m * 1 := by
  simp; omega

theorem cat_bounds {k B x y p q n : Nat} (hk : k < B) (hp : B * x = p) (hq : B * y = q) (hn : n ≤ k * (x + y)) : k * x + x ≤ p ∧ k * y + y ≤ q ∧ n + x + y ≤ p + q := by
  have h1 : (k + 1) * x ≤ B * x := Nat.mul_le_mul_right _ hk
  have h2 : (k + 1) * y ≤ B * y := Nat.mul_le_mul_right _ hk
  rw [Nat.add_mul, Nat.one_mul] at h1 h2
  rw [Nat.mul_add] at hn
  omega

theorem cat_next {k x y n : Nat} (hn : n ≤ k * (x + y)) : n + x + y ≤ (k + 1) * (x + y) := by
  rw [Nat.add_mul, Nat.one_mul]; omega

end Go.Proofs.YtgjpchnkodnieaaGreatDoor
namespace Go.Proofs.YtgjpchnkodnieaaGreatDoor
open Go.RowKit

/-- A list of the call's own, made since W, that grows by appends. -/
structure Ch (W V : World) (g cap n : Nat) (zs : List Int) : Prop where
  own : V.ownsRow W.heap.size 3 1 (.slice (some ⟨g, 0, none⟩) n cap) n (zs.map (Value.int .i64))
  low : Below W.heap.size W V

section
variable {W V : World} {g cap n : Nat} {zs : List Int}
theorem Ch.start (hB : Below W.heap.size W V) (hg : g = V.heap.size) : Ch W (V.alloc (.cells #[] 3)) g 0 0 [] := by
  subst hg
  exact ⟨owns_mono (owns_empty V) hB.size, hB.alloc hB.size _⟩
theorem Ch.alloc (h : Ch W V g cap n zs) (o : Obj) : Ch W (V.alloc o) g cap n zs := ⟨owns_below h.own (Nat.le_refl _) ((Below.refl _ _).alloc (Nat.le_refl _) _), h.low.alloc h.low.size _⟩
theorem Ch.drew (h : Ch W V g cap n zs) : Ch W V.drew g cap n zs := ⟨owns_below h.own (Nat.le_refl _) (Below.refl _ _).drew, h.low.drew⟩
theorem Ch.row (h : Ch W V g cap n zs) (hs : n ≤ 17592186044416) : Row V (some ⟨g, 0, none⟩) n zs := by
  obtain ⟨a, c, e, ho⟩ := Own.of_owns h.own hs
  cases e
  exact ho.row

theorem step_append_ch {P : Program} (hP : P = Tryz.prog) {ops : Array Oper} {o : Oper} {a : Act} {K : Act → World → Prop} {Q : Exit → Act → World → Prop} {E : Prop} (hgd : o.guard = none) (s x : Operand)
    (ho : o.op = .call { callee := .builtin .append, args := #[s, x], argTypes := #[23, 23] })
    (hC : Ch W V g cap n zs) (hs : a.eval s = .slice (some ⟨g, 0, none⟩) n cap) (ad : Addr) (m c : Nat) (ys : List Int) (hr : Row W (some ad) m ys) (hx : a.eval x = .slice (some ad) m c) (N : Nat) (hN : n + m = N) (hb : N ≤ 20000)
    (h : ∀ g' cap' V', Ch W V' g' cap' N (zs ++ ys) → (∀ p c v1 v2, Box V p c v1 v2 → Box V' p c v1 v2) → K (a.put o.dst (.slice (some ⟨g', 0, none⟩) N cap')) V') :
    if Region.wanted o (yielded ops a.tmps) = true then Oper.wp P o a V K Q else E := by
  subst hP hN
  obtain ⟨i0, hi, hz0, hz1, hz2⟩ := info_parts info_int
  have hl := hr.len
  have hr' := hr.below (Nat.le_refl _) hC.low
  refine step_append_some _ hgd s x 23 ho W.heap.size 3 i0 (.int .i64 0) 1 8 Tryz.underlying23 hi hz0 hz1 hz2 rfl (by decide) g n cap (zs.map (Value.int .i64)) hs hC.own ad m c (ys.map (Value.int .i64)) hx (by simpa using hl) (cells_ints hr') (one_ints ys) (by unfold maxLen; omega) (by omega) hC.low.size ?_
  intro g' cap' V' hown hgrow _
  have hge : W.heap.size ≤ g := by
    rcases hC.own.2 with ⟨e, _⟩ | ⟨g', c', cur, e, hg, _⟩
    · cases e
    · cases e; exact hg
  exact h g' cap' V' ⟨by rw [List.map_append]; exact hown, hC.low.grown hgrow hC.low.size (by intro k hk; cases hk; exact hge)⟩ (fun p c v1 v2 hbx => hbx.grown0 hC.own hgrow)
end

end Go.Proofs.YtgjpchnkodnieaaGreatDoor
namespace Go.Proofs.YtgjpchnkodnieaaGreatDoor
open Go.RowKit

set_option maxHeartbeats 2000000 in
theorem lwScalar_any (v : Int) (w : World) :
    Calls Tryz.prog 18 #[.int .i64 v] w fun e w' => ∃ g, e = .returned (.agg #[.bool false, .slice none 0 0, .slice (some ⟨g, 0, none⟩) 1 1]) ∧ Own w' w.heap.size (some ⟨g, 0, none⟩) 1 [v] ∧ Below w.heap.size w w' := by
  have HP0 : Hid (Box (w.alloc (.cells #[.bool false, .slice none 0 0, .slice none 0 0] 25)) w.heap.size false (.slice none 0 0) (.slice none 0 0)) := Box.new w _ _ _
  obtain ⟨y0, y1, y2, y3, y4, y5, y6⟩ := (unhide HP0).all
  go_enter Tryz.func18, Tryz.ntmps18
  go_wp2_with fail
  have hx := Box.new w false (.slice none 0 0) (.slice (some ⟨w.heap.size + 1, 0, none⟩) 1 1)
  obtain ⟨r0, r1, r2, _, _, _⟩ := (hx.below (Nat.le_refl _) ((Below.refl _ _).alloc (Nat.le_refl _) (.cells #[.int .i64 v] 3))).all
  refine bodyPost_ret (v := .agg #[.bool false, .slice none 0 0, .slice (some ⟨w.heap.size + 1, 0, none⟩) 1 1]) (by simp [results, Tryz.results18, go_sem]) rfl ⟨w.heap.size + 1, rfl, ?_, ((Below.refl _ _).alloc (Nat.le_refl _) _).alloc (by simp) _⟩
  have hb := World.alloc_heap_new (w.alloc (.cells #[.bool false, .slice none 0 0, .slice (some ⟨w.heap.size + 1, 0, none⟩) 1 1] 25)) (.cells #[.int .i64 v] 3)
  rw [World.size_alloc] at hb
  exact (show Blk _ (w.heap.size + 1) [v] from hb).own rfl (by omega) (by omega)

end Go.Proofs.YtgjpchnkodnieaaGreatDoor
namespace Go.Proofs.YtgjpchnkodnieaaGreatDoor
open Go.RowKit

section
variable {W V : World} {g cap n : Nat} {zs : List Int}
theorem step_append_ch2 {P : Program} (hP : P = Tryz.prog) {ops : Array Oper} {o : Oper} {a : Act} {K : Act → World → Prop} {Q : Exit → Act → World → Prop} {E : Prop} (hgd : o.guard = none) (s x : Operand)
    (ho : o.op = .call { callee := .builtin .append, args := #[s, x], argTypes := #[23, 23] })
    (hC : Ch W V g cap n zs) (hs : a.eval s = .slice (some ⟨g, 0, none⟩) n cap) (ad : Addr) (m c : Nat) (ys : List Int) (hr : Row W (some ad) m ys) (hx : a.eval x = .slice (some ad) m c) (N : Nat) (hN : n + m = N) (hb : N ≤ 20000)
    (h : ∀ g' cap' V', Ch W V' g' cap' N (zs ++ ys) → (∀ p c v1 v2, Box V p c v1 v2 → Box V' p c v1 v2) → (∀ q l, Blk V q l → q ≠ g → Blk V' q l) → (g' = g ∨ g' = V.heap.size) → V.heap.size ≤ V'.heap.size → K (a.put o.dst (.slice (some ⟨g', 0, none⟩) N cap')) V') :
    if Region.wanted o (yielded ops a.tmps) = true then Oper.wp P o a V K Q else E := by
  subst hP hN
  obtain ⟨i0, hi, hz0, hz1, hz2⟩ := info_parts info_int
  have hl := hr.len
  have hr' := hr.below (Nat.le_refl _) hC.low
  refine step_append_some _ hgd s x 23 ho W.heap.size 3 i0 (.int .i64 0) 1 8 Tryz.underlying23 hi hz0 hz1 hz2 rfl (by decide) g n cap (zs.map (Value.int .i64)) hs hC.own ad m c (ys.map (Value.int .i64)) hx (by simpa using hl) (cells_ints hr') (one_ints ys) (by unfold maxLen; omega) (by omega) hC.low.size ?_
  intro g' cap' V' hown hgrow hat
  have hge : W.heap.size ≤ g := by
    rcases hC.own.2 with ⟨e, _⟩ | ⟨g', c', cur, e, hg, _⟩
    · cases e
    · cases e; exact hg
  exact h g' cap' V' ⟨by rw [List.map_append]; exact hown, hC.low.grown hgrow hC.low.size (by intro k hk; cases hk; exact hge)⟩ (fun p c v1 v2 hbx => hbx.grown0 hC.own hgrow) (fun q l hq hne => (hgrow.block q hq.lt (fun e => hne (by simpa using e))).trans hq) hat hgrow.size
end

/-- What lwMatrix gives: a matrix of the same elements, its two lists of its own and apart. -/
def MatOf (c : Bool) (n2 : Nat) (dt : List Int) (w : World) (e : Ending) (w' : World) : Prop := ∃ (R C g1 g2 d2 : Nat), e = .returned (.agg #[.bool c, .slice (some ⟨g1, 0, none⟩) 2 2, .slice (some ⟨g2, 0, none⟩) n2 d2]) ∧ arrOk c [(R : Int), (C : Int)] dt = true ∧ Own w' w.heap.size (some ⟨g1, 0, none⟩) 2 [(R : Int), (C : Int)] ∧ Own w' w.heap.size (some ⟨g2, 0, none⟩) n2 dt ∧ g1 ≠ g2 ∧ Below w.heap.size w w'

set_option maxRecDepth 20000 in
set_option maxHeartbeats 4000000 in
theorem lwMatrix_any (c : Bool) (a1 a2 : Addr) (n1 n2 c1 c2 : Nat) (sh dt : List Int) (w : World) (h1 : Row w (some a1) n1 sh) (h2 : Row w (some a2) n2 dt) (hok : arrOk c sh dt = true) :
    Calls Tryz.prog 39 #[.agg #[.bool c, .slice (some a1) n1 c1, .slice (some a2) n2 c2]] w (MatOf c n2 dt w) := by
  have hl1 := h1.len
  have hl2 := h2.len
  have hs2 := h2.small
  have hn5 : n1 ≤ 5 := by have := (shapeIn_of hok).2.2; omega
  obtain ⟨i0, hi, hz0, hz1, hz2⟩ := info_parts info_int
  obtain ⟨W0, hW0⟩ : ∃ W0, W0 = (w.alloc (.cells #[.bool c, .slice (some a1) n1 c1, .slice (some a2) n2 c2] 25)).alloc (.cells #[.bool false, .slice none 0 0, .slice none 0 0] 25) := ⟨_, rfl⟩
  obtain ⟨B4, B5, hB0⟩ := boxes2 (w := w) (c := c) (v1 := .slice (some a1) n1 c1) (v2 := .slice (some a2) n2 c2) (Below.refl _ _)
  rw [← hW0] at B4 B5 hB0
  have X4 := hide B4
  have X5 := hide B5
  have HB := hide hB0
  have H1 := hide (h1.below (Nat.le_refl _) hB0)
  have H2 := hide (h2.below (Nat.le_refl _) hB0)
  have HOK := hide hok
  have HL2 := hide hl2
  obtain ⟨x0, x1, x2⟩ := B4.cells
  clear h1 h2 hok B4 B5 hB0 hl2
  go_enter Tryz.func39, Tryz.ntmps39
  go_upto_region 3 with fail
  rw [← hW0]
  clear hW0
  go_wp2_with fail
  go_loopw [5, 3, 4] (fun i r s wr => ∃ k R C : Nat, k ≤ n1 ∧ i = .int .i64 (k : Nat) ∧ r = .int .i64 (R : Nat) ∧ s = .int .i64 (C : Nat) ∧ Hid ((R : Int) = matR sh k ∧ (C : Int) = matC sh k) ∧ wr = W0) (fun i _ _ _ => n1 - (intOf i).toNat)
  case atStart => exact ⟨0, 1, 1, Nat.zero_le _, rfl, rfl, rfl, ⟨(mat_zero sh).1.symm, (mat_zero sh).2.symm⟩, rfl⟩
  case round =>
  obtain ⟨k, R, C, hk, rfl, rfl, rfl, hm, hwr⟩ := hrel
  subst wr
  by_cases hlt : k < n1
  · have hkz : (k : Int) < (n1 : Int) := by omega
    obtain ⟨ba, oa, ea, hba, hca⟩ := (unhide H1).get hlt
    cases ea
    have hcell := (shapeIn_of (unhide HOK)).1.cell k
    obtain ⟨x, hx⟩ : ∃ x : Nat, sh.getD k 0 = (x : Int) := ⟨(sh.getD k 0).toNat, by omega⟩
    rw [hx] at hca hcell
    have hbd := mat_bd (unhide HOK) k
    have hwk : IntKind.i64.wrap ((k : Int) + 1) = (k : Int) + 1 := by rw [IntKind.wrap_i64]; omega
    have hwn : IntKind.i64.wrap ((n1 : Int) - 1) = ((n1 - 1 : Nat) : Int) := by rw [IntKind.wrap_i64]; omega
    by_cases hlast : k + 1 = n1
    · have g0 : ((k : Int) == ((n1 - 1 : Nat) : Int)) = true := by simp; omega
      have hM := mat_last (sh := sh) (k := k) (by omega)
      clear hcell hbd
      go_wp2_with fail
      refine ⟨⟨k + 1, R, x, by omega, by go_num, rfl, rfl, ⟨by rw [hM.1]; exact (unhide hm).1, by rw [hM.2, hx]⟩, trivial⟩, ?_⟩
      simp [intOf]; omega
    · have g0 : ((k : Int) == ((n1 - 1 : Nat) : Int)) = false := by simp; omega
      have hM := mat_mid (sh := sh) (k := k) (by omega)
      have hbd' := mat_bd (unhide HOK) (k + 1)
      rw [hM.1, ← (unhide hm).1, hx] at hbd'
      obtain ⟨y, hy⟩ : ∃ y : Nat, R * x = y := ⟨_, rfl⟩
      have hyz : (R : Int) * (x : Int) = (y : Int) := by rw [← hy]; push_cast; rfl
      have hwy : IntKind.i64.wrap ((R : Int) * (x : Int)) = (y : Int) := by rw [IntKind.wrap_i64, hyz]; rw [hyz] at hbd'; omega
      have HY : Hid ((y : Int) = matR sh (k + 1)) := by show _ = _; rw [hM.1, ← (unhide hm).1, hx, hyz]
      clear hcell hbd hbd' hy hyz
      go_wp2_with fail
      refine ⟨⟨k + 1, y, C, by omega, by go_num, by go_num, rfl, ⟨unhide HY, by rw [hM.2]; exact (unhide hm).2⟩, trivial⟩, ?_⟩
      simp [intOf]; omega
  have hkz : ¬ (k : Int) < (n1 : Int) := by omega
  have hkn : k = n1 := by omega
  subst k
  have HM : Hid (arrOk c [(R : Int), (C : Int)] dt = true) := by
    have hb := mat_bd (unhide HOK) n1
    have hp := mat_all sh
    rw [hl1, ← (unhide hm).1, ← (unhide hm).2] at hp
    rw [← (unhide hm).1, ← (unhide hm).2] at hb
    exact mat_ok (unhide HOK) hb.1.2 hb.2.2 hp
  clear hm hlt hk
  have hw05 : w.heap.size + 1 < W0.heap.size := (unhide X5).lt
  go_upto_region 9 with fail
  have hnb2 : n2 ≤ 10000 := by have h3 := (shapeIn_of (unhide HOK)).1.bd; rw [(shapeIn_of (unhide HOK)).2.1] at h3; have := unhide HL2; omega
  have HKEEP : ∀ wx, But (fun k => k = w.heap.size + 1) W0 wx → wx.cell? ⟨w.heap.size, 0, none⟩ = some (.bool c) ∧ wx.cell? ⟨w.heap.size, 1, none⟩ = some (.slice (some a1) n1 c1) ∧ wx.cell? ⟨w.heap.size, 2, none⟩ = some (.slice (some a2) n2 c2) := fun wx hwx => ((unhide X4).but hwx (by show ¬ w.heap.size = w.heap.size + 1; omega)).cells
  have HSH : ∀ X : World, Blk (X.alloc (.cells #[.int .i64 (R : Nat), .int .i64 (C : Nat)] 3)) X.heap.size [(R : Int), (C : Int)] := fun X => World.alloc_heap_new X _
  go_region_held3 (fun wx => wx.cell? ⟨w.heap.size, 0, none⟩ = some (.bool c) ∧ wx.cell? ⟨w.heap.size, 1, none⟩ = some (.slice (some a1) n1 c1) ∧ wx.cell? ⟨w.heap.size, 2, none⟩ = some (.slice (some a2) n2 c2)) (first | exact HKEEP _ (But.of_below (S := fun k => k = w.heap.size + 1) (Below.refl _ _).drew) | exact HKEEP _ (But.of_below (S := fun k => k = w.heap.size + 1) ((Below.refl _ _).alloc (Nat.le_refl _) _).drew) | exact HKEEP _ (But.of_below (S := fun k => k = w.heap.size + 1) (((Below.refl _ _).alloc (Nat.le_refl _) _).alloc (by simp) _).drew) | exact HKEEP _ (But.of_below (S := fun k => k = w.heap.size + 1) (unhide HCH).low) | exact HKEEP _ (But.of_below (S := fun k => k = w.heap.size + 1) ((unhide HCH).low.alloc (unhide HCH).low.size _)) | exact HKEEP _ ((((But.of_below (S := fun k => k = w.heap.size + 1) (unhide HCH).low).setCell (p := ⟨w.heap.size + 1, 0, none⟩) rfl _).setCell (p := ⟨w.heap.size + 1, 1, none⟩) rfl _).setCell (p := ⟨w.heap.size + 1, 2, none⟩) rfl _) | exact HKEEP _ (((((But.of_below (S := fun k => k = w.heap.size + 1) (unhide HCH).low).setCell (p := ⟨w.heap.size + 1, 0, none⟩) rfl _).setCell (p := ⟨w.heap.size + 1, 1, none⟩) rfl _).setCell (p := ⟨w.heap.size + 1, 2, none⟩) rfl _).alloc _))
    (first | (refine step_append_ch2 (W := W0) rfl (by rfl) _ _ (by rfl) (by first | exact (Ch.start (Below.refl _ W0) rfl).drew | exact ((Ch.start (Below.refl _ W0) rfl).alloc _).drew | exact (Ch.start (g := W0.heap.size + 1) ((Below.refl _ W0).alloc (Nat.le_refl _) _) (by simp)).drew) (by rfl) a2 n2 c2 dt (unhide H2) (by rfl) n2 (by omega) (by omega) ?_; intro g' cap' V' hch hbx hblk hg' hsz; have HCH := hide hch; have HX5 := hide (hbx _ _ _ _ (by first | exact (unhide X5).drew | exact ((unhide X5).alloc _).drew | exact (((unhide X5).alloc _).alloc _).drew)); (first | (have HSL : Hid (Blk V' W0.heap.size [(R : Int), (C : Int)]) := hblk _ _ (by exact ((HSH W0).alloc _).drew) (by simp)) | (have HSL : Hid (Blk V' (W0.heap.size + 1) [(R : Int), (C : Int)]) := hblk _ _ (by have := HSH (W0.alloc (.cells #[] 3)); rw [World.size_alloc] at this; exact this.drew) (by simp)) | skip); obtain ⟨q0, q1, q2, q3, q4, q5, q6⟩ := (unhide HX5).all; obtain ⟨p0, p1, p2, p3, p4, p5, p6⟩ := ((unhide HX5).alloc (.cells #[.int .i64 (R : Nat), .int .i64 (C : Nat)] 3)).all; have HGG := hide hg'; have HSZ := hide hsz; clear hch hbx hblk hg' hsz))
  all_goals go_wp2_with fail
  all_goals first
    | (have HQ9 : Blk V' (W0.heap.size) [(R : Int), (C : Int)] := unhide HSL; have hx := (unhide HX5).sets (c' := c) (u1 := .slice (some ⟨W0.heap.size, 0, none⟩) 2 2) (u2 := .slice (some ⟨g', 0, none⟩) n2 cap'); obtain ⟨r0, r1, r2, _, _, _⟩ := hx.all; refine bodyPost_ret (v := .agg #[.bool c, .slice (some ⟨W0.heap.size, 0, none⟩) 2 2, .slice (some ⟨g', 0, none⟩) n2 cap']) (by simp [results, Tryz.results39, go_sem, r0, r1, r2]) rfl ?_; have hs' : But (fun x => x = w.heap.size + 1) V' (((V'.setCell ⟨w.heap.size + 1, 0, none⟩ (.bool c)).setCell ⟨w.heap.size + 1, 1, none⟩ (.slice (some ⟨W0.heap.size, 0, none⟩) 2 2)).setCell ⟨w.heap.size + 1, 2, none⟩ (.slice (some ⟨g', 0, none⟩) n2 cap')) := (((But.refl (fun x => x = w.heap.size + 1) V').setCell (p := ⟨w.heap.size + 1, 0, none⟩) rfl _).setCell (p := ⟨w.heap.size + 1, 1, none⟩) rfl _).setCell (p := ⟨w.heap.size + 1, 2, none⟩) rfl _; obtain ⟨_, _, ev, hO⟩ := Own.of_owns (unhide HCH).own (by omega); cases ev; rw [List.nil_append] at hO; have hO2 := hs'.own (hO.mono (B' := w.heap.size) (by omega)) (fun x hx hk => by have := hO.low hk; omega); have hb0 : Below w.heap.size w (((V'.setCell ⟨w.heap.size + 1, 0, none⟩ (.bool c)).setCell ⟨w.heap.size + 1, 1, none⟩ (.slice (some ⟨W0.heap.size, 0, none⟩) 2 2)).setCell ⟨w.heap.size + 1, 2, none⟩ (.slice (some ⟨g', 0, none⟩) n2 cap')) := (((((unhide HB).trans ((unhide HCH).low.mono (unhide HB).size)).setCell (p := ⟨w.heap.size + 1, 0, none⟩) (by show _ ≤ w.heap.size + 1; omega) _).setCell (p := ⟨w.heap.size + 1, 1, none⟩) (by show _ ≤ w.heap.size + 1; omega) _).setCell (p := ⟨w.heap.size + 1, 2, none⟩) (by show _ ≤ w.heap.size + 1; omega) _); have hO1 := hs'.own ((unhide HSL).own (B := w.heap.size) (n := 2) rfl (by omega) (by omega)) (fun x hx hk => by have := at_eq hk; omega); exact ⟨R, C, _, g', cap', rfl, unhide HM, hO1, hO2, (by have h7 := unhide HGG; simp at h7; omega), hb0⟩)
    | (have HQ9 : Blk V' (W0.heap.size + 1) [(R : Int), (C : Int)] := unhide HSL; have hx := (unhide HX5).sets (c' := c) (u1 := .slice (some ⟨W0.heap.size + 1, 0, none⟩) 2 2) (u2 := .slice (some ⟨g', 0, none⟩) n2 cap'); obtain ⟨r0, r1, r2, _, _, _⟩ := hx.all; refine bodyPost_ret (v := .agg #[.bool c, .slice (some ⟨W0.heap.size + 1, 0, none⟩) 2 2, .slice (some ⟨g', 0, none⟩) n2 cap']) (by simp [results, Tryz.results39, go_sem, r0, r1, r2]) rfl ?_; have hs' : But (fun x => x = w.heap.size + 1) V' (((V'.setCell ⟨w.heap.size + 1, 0, none⟩ (.bool c)).setCell ⟨w.heap.size + 1, 1, none⟩ (.slice (some ⟨W0.heap.size + 1, 0, none⟩) 2 2)).setCell ⟨w.heap.size + 1, 2, none⟩ (.slice (some ⟨g', 0, none⟩) n2 cap')) := (((But.refl (fun x => x = w.heap.size + 1) V').setCell (p := ⟨w.heap.size + 1, 0, none⟩) rfl _).setCell (p := ⟨w.heap.size + 1, 1, none⟩) rfl _).setCell (p := ⟨w.heap.size + 1, 2, none⟩) rfl _; obtain ⟨_, _, ev, hO⟩ := Own.of_owns (unhide HCH).own (by omega); cases ev; rw [List.nil_append] at hO; have hO2 := hs'.own (hO.mono (B' := w.heap.size) (by omega)) (fun x hx hk => by have := hO.low hk; omega); have hb0 : Below w.heap.size w (((V'.setCell ⟨w.heap.size + 1, 0, none⟩ (.bool c)).setCell ⟨w.heap.size + 1, 1, none⟩ (.slice (some ⟨W0.heap.size + 1, 0, none⟩) 2 2)).setCell ⟨w.heap.size + 1, 2, none⟩ (.slice (some ⟨g', 0, none⟩) n2 cap')) := (((((unhide HB).trans ((unhide HCH).low.mono (unhide HB).size)).setCell (p := ⟨w.heap.size + 1, 0, none⟩) (by show _ ≤ w.heap.size + 1; omega) _).setCell (p := ⟨w.heap.size + 1, 1, none⟩) (by show _ ≤ w.heap.size + 1; omega) _).setCell (p := ⟨w.heap.size + 1, 2, none⟩) (by show _ ≤ w.heap.size + 1; omega) _); have hO1 := hs'.own ((unhide HSL).own (B := w.heap.size) (n := 2) rfl (by omega) (by omega)) (fun x hx hk => by have := at_eq hk; omega); exact ⟨R, C, _, g', cap', rfl, unhide HM, hO1, hO2, (by have h7 := unhide HGG; simp at h7; omega), hb0⟩)
    | (have hx := (unhide HX5).sets (c' := c) (u1 := .slice (some ⟨V'.heap.size, 0, none⟩) 2 2) (u2 := .slice (some ⟨g', 0, none⟩) n2 cap'); have hy := hx.alloc (.cells #[.int .i64 (R : Nat), .int .i64 (C : Nat)] 3); obtain ⟨r0, r1, r2, _, _, _⟩ := hy.all; refine bodyPost_ret (v := .agg #[.bool c, .slice (some ⟨V'.heap.size, 0, none⟩) 2 2, .slice (some ⟨g', 0, none⟩) n2 cap']) (by simp [results, Tryz.results39, go_sem, r0, r1, r2]) rfl ?_; have hs' : But (fun x => x = w.heap.size + 1) V' (((V'.setCell ⟨w.heap.size + 1, 0, none⟩ (.bool c)).setCell ⟨w.heap.size + 1, 1, none⟩ (.slice (some ⟨V'.heap.size, 0, none⟩) 2 2)).setCell ⟨w.heap.size + 1, 2, none⟩ (.slice (some ⟨g', 0, none⟩) n2 cap')) := (((But.refl (fun x => x = w.heap.size + 1) V').setCell (p := ⟨w.heap.size + 1, 0, none⟩) rfl _).setCell (p := ⟨w.heap.size + 1, 1, none⟩) rfl _).setCell (p := ⟨w.heap.size + 1, 2, none⟩) rfl _; obtain ⟨_, _, ev, hO⟩ := Own.of_owns (unhide HCH).own (by omega); cases ev; rw [List.nil_append] at hO; have hO2 := hs'.own (hO.mono (B' := w.heap.size) (by omega)) (fun x hx hk => by have := hO.low hk; omega); have hb0 : Below w.heap.size w (((V'.setCell ⟨w.heap.size + 1, 0, none⟩ (.bool c)).setCell ⟨w.heap.size + 1, 1, none⟩ (.slice (some ⟨V'.heap.size, 0, none⟩) 2 2)).setCell ⟨w.heap.size + 1, 2, none⟩ (.slice (some ⟨g', 0, none⟩) n2 cap')) := (((((unhide HB).trans ((unhide HCH).low.mono (unhide HB).size)).setCell (p := ⟨w.heap.size + 1, 0, none⟩) (by show _ ≤ w.heap.size + 1; omega) _).setCell (p := ⟨w.heap.size + 1, 1, none⟩) (by show _ ≤ w.heap.size + 1; omega) _).setCell (p := ⟨w.heap.size + 1, 2, none⟩) (by show _ ≤ w.heap.size + 1; omega) _); have hO1 : Own (World.alloc (((V'.setCell ⟨w.heap.size + 1, 0, none⟩ (.bool c)).setCell ⟨w.heap.size + 1, 1, none⟩ (.slice (some ⟨V'.heap.size, 0, none⟩) 2 2)).setCell ⟨w.heap.size + 1, 2, none⟩ (.slice (some ⟨g', 0, none⟩) n2 cap')) (.cells #[.int .i64 (R : Nat), .int .i64 (C : Nat)] 3)) w.heap.size (some ⟨V'.heap.size, 0, none⟩) 2 [(R : Int), (C : Int)] := (by have h9 := HSH (((V'.setCell ⟨w.heap.size + 1, 0, none⟩ (.bool c)).setCell ⟨w.heap.size + 1, 1, none⟩ (.slice (some ⟨V'.heap.size, 0, none⟩) 2 2)).setCell ⟨w.heap.size + 1, 2, none⟩ (.slice (some ⟨g', 0, none⟩) n2 cap')); simp only [World.size_setCell] at h9; exact h9.own (n := 2) rfl (by omega) (by omega)); have hne9 : V'.heap.size ≠ g' := Nat.ne_of_gt (owns_lt (unhide HCH).own rfl); exact ⟨R, C, V'.heap.size, g', cap', rfl, unhide HM, hO1, hO2.alloc _, hne9, hb0.alloc hb0.size _⟩)

end Go.Proofs.YtgjpchnkodnieaaGreatDoor
namespace Go.Proofs.YtgjpchnkodnieaaGreatDoor
open Go

section
variable {P : Program} {ops : Array Oper} {Q : Exit → Act → World → Prop} {md : Region.Mode} {S : World → Prop} {st : Nat}

/-- Whatever order is picked from here on, and S holds behind every operation but number st. -/
def wpAnyL (P : Program) (md : Region.Mode) (ops : Array Oper) (Q : Exit → Act → World → Prop) (S : World → Prop) (st : Nat) : Nat → Array Bool → Act → World → Prop
  | 0, listed, a, w => Region.ready md ops listed = [] ∧ Q .normal a w
  | fuel + 1, listed, a, w =>
    (Region.ready md ops listed = [] → Q .normal a w) ∧
    ∀ i ∈ Region.ready md ops listed, wpOp P ops Q i (fun a' w' => (i ≠ st → S w') ∧ wpAnyL P md ops Q S st fuel (listed.setIfInBounds i true) a' w') a w

theorem wpAny_of_L : ∀ (fuel : Nat) (listed : Array Bool) (a : Act) (w : World), wpAnyL P md ops Q S st fuel listed a w → wpAny P md ops Q fuel listed a w
  | 0, _, _, _, h => h
  | fuel + 1, _, _, _, h => ⟨h.1, fun i hi => wpOp_mono (fun a' w' h' => wpAny_of_L fuel _ a' w' h'.2) (h.2 i hi)⟩

/-- Operation st waits for operation i. -/
def waitsFor (md : Region.Mode) (ops : Array Oper) (st i : Nat) : Bool := ((ops[st]?).map (·.after.any fun e => Region.binds md e && e.on == i)).getD false

theorem waits_not {i : Nat} {listed : Array Bool} (hw : waitsFor md ops st i = true) (hi : listed.getD i true = false) : st ∉ Region.ready md ops listed := by
  intro hst
  obtain ⟨_, o, ho, hall⟩ := mem_ready.1 hst
  unfold waitsFor at hw
  rw [ho] at hw
  simp only [Option.map_some, Option.getD_some, Array.any_eq_true'] at hw
  obtain ⟨e, he, hb⟩ := hw
  simp only [Bool.and_eq_true, beq_iff_eq] at hb
  have h1 := hall e he hb.1
  rw [hb.2] at h1
  rcases Nat.lt_or_ge i listed.size with h' | h'
  · simp [h'] at hi h1; rw [hi] at h1; cases h1
  · simp [Array.getElem?_eq_none h'] at h1

theorem wpAnyL_first {i : Nat} {oi : Oper} {v : Value} (hi : ops[i]? = some oi) (hsel : ∀ (j : Nat) (o : Oper) cs b, ops[j]? = some o → o.op ≠ .select cs b)
    (hQ : ∀ c a w, Q (.panic c) (a.put oi.dst v) w → Q (.panic c) a w) (hw : waitsFor md ops st i = true) :
    ∀ (fuel : Nat) (listed : Array Bool) (a : Act) (w : World),
      (∀ j oj, ops[j]? = some oj → j ≠ i → listed.getD j true = false → (∀ e ∈ oj.after, Region.binds md e = true → e.on ≠ i) → oi.apart ops oj = true) →
      i ∈ Region.ready md ops listed → YieldsIf P ops S oi v a → S w →
      wpAnyL P md ops Q S st fuel (listed.setIfInBounds i true) (a.put oi.dst v) w → wpAnyL P md ops Q S st (fuel + 1) listed a w := by
  intro fuel
  induction fuel with
  | zero =>
    intro listed a w _ hr hy hS H
    refine ⟨fun h => (by rw [h] at hr; cases hr), fun j hj => ?_⟩
    by_cases hji : j = i
    · subst hji; exact hy.wpOp hi hS ⟨fun _ => hS, H⟩
    · have := ready_mono hj hji
      rw [H.1] at this
      cases this
  | succ fuel ih =>
    intro listed a w hfree hr hy hS H
    refine ⟨fun h => (by rw [h] at hr; cases hr), fun j hj => ?_⟩
    by_cases hji : j = i
    · subst hji; exact hy.wpOp hi hS ⟨fun _ => hS, H⟩
    · have h1 := H.2 j (ready_mono hj hji)
      have hjst : j ≠ st := fun e => waits_not hw (mem_ready.1 hr).1 (e ▸ hj)
      obtain ⟨hjun, oj, hoj, hall⟩ := mem_ready.1 hj
      have hnot : ∀ e ∈ oj.after, Region.binds md e = true → e.on ≠ i := fun e he hb heq => by
        have h1 := hall e he hb
        have h0 := (mem_ready.1 hr).1
        rw [heq] at h1
        rcases Nat.lt_or_ge i listed.size with h' | h'
        · simp [h'] at h0 h1; rw [h0] at h1; cases h1
        · simp [Array.getElem?_eq_none h'] at h1
      have h2 := wpOp_putIf hoj (hfree j oj hoj hji hjun hnot) (fun cs b => hsel i oi cs b hi) (fun cs b => hsel j oj cs b hoj) hQ hy h1
      have hfree' : ∀ k ok, ops[k]? = some ok → k ≠ i → (listed.setIfInBounds j true).getD k true = false →
          (∀ e ∈ ok.after, Region.binds md e = true → e.on ≠ i) → oi.apart ops ok = true := fun k ok hk hki hun hno => by
        refine hfree k ok hk hki ?_ hno
        by_cases hjk : j = k
        · subst hjk; exact hjun
        · rw [getD_set_ne true hjk] at hun; exact hun
      refine wpOp_mono (fun a' w' h3 => ⟨h3.2.1, ih (listed.setIfInBounds j true) a' w' hfree' (ready_mono hr (Ne.symm hji)) h3.1 (h3.2.1 hjst) ?_⟩) h2
      rw [Array.setIfInBounds_comm _ _ hji]
      exact h3.2.2

/-- Take number i first. -/
theorem wpAnyL_take {i : Nat} {oi : Oper} {v : Value} {fuel : Nat} {listed : Array Bool} {a : Act} {w : World} (hi : ops[i]? = some oi)
    (hs : Region.noSelect ops = true) (hf : Region.free md ops listed i = true) (hr : (Region.ready md ops listed).contains i = true) (hw : waitsFor md ops st i = true)
    (hQ : ∀ c a w, Q (.panic c) (a.put oi.dst v) w → Q (.panic c) a w) (hy : YieldsIf P ops S oi v a) (hS : S w)
    (h : wpAnyL P md ops Q S st fuel (listed.setIfInBounds i true) (a.put oi.dst v) w) : wpAnyL P md ops Q S st (fuel + 1) listed a w :=
  wpAnyL_first hi (Region.noSelect_spec hs) hQ hw fuel listed a w (Region.free_spec hi hf) (by simpa using hr) hy hS h

/-- Take number i first, its value into slot d. -/
theorem wpAnyL_put (i d : Nat) (v : Value) {oi : Oper} {fuel : Nat} {listed : Array Bool} {a : Act} {w : World} (hi : ops[i]? = some oi) (hd : oi.dst = some d)
    (hs : Region.noSelect ops = true) (hf : Region.free md ops listed i = true) (hr : (Region.ready md ops listed).contains i = true) (hw : waitsFor md ops st i = true)
    (hQ : ∀ c a (d : Nat) v w, Q (.panic c) (a.put (some d) v) w → Q (.panic c) a w) (hg : Region.wanted oi (yielded ops a.tmps) = true) (hy : ∀ w, S w → (execOp a.eval oi).run P w = .ok (.value v) w) (hS : S w)
    (h : wpAnyL P md ops Q S st fuel (listed.setIfInBounds i true) (a.put (some d) v) w) : wpAnyL P md ops Q S st (fuel + 1) listed a w :=
  wpAnyL_take hi hs hf hr hw (fun c a w h => by rw [hd] at h; exact hQ c a d v w h) (Or.inl ⟨hg, hy⟩) hS (by rw [hd]; exact h)

/-- One alone may come up. -/
theorem wpAnyL_one {i : Nat} {fuel : Nat} {listed : Array Bool} {a : Act} {w : World} (hr : Region.ready md ops listed = [i])
    (h : wpOp P ops Q i (fun a' w' => (i ≠ st → S w') ∧ wpAnyL P md ops Q S st fuel (listed.setIfInBounds i true) a' w') a w) : wpAnyL P md ops Q S st (fuel + 1) listed a w :=
  ⟨fun h0 => (by rw [hr] at h0; cases h0), fun j hj => (by rw [hr] at hj; simp at hj; subst hj; exact h)⟩

theorem wpAnyL_done {listed : Array Bool} {a : Act} {w : World} (hr : Region.ready md ops listed = []) (h : Q .normal a w) : ∀ fuel, wpAnyL P md ops Q S st fuel listed a w
  | 0 => ⟨hr, h⟩
  | _ + 1 => ⟨fun _ => h, by rw [hr]; simp⟩

theorem wp_region_L {id : Nat} {a : Act} {w : World} (S : World → Prop) (st : Nat) (hm : P.follows .mixedOrders = true)
    (h : wpAnyL P .any ops Q S st ops.size (Array.replicate ops.size false) a { w with drawn := w.drawn + 1 }) : (Code.region id ops true).wp P Q a w :=
  wp_region_any hm (wpAny_of_L _ _ _ _ h)

theorem op_wp {K : Act → World → Prop} {a : Act} {w : World} {i : Nat} {o : Oper} (hi : ops[i]? = some o) (hg : Region.wanted o (yielded ops a.tmps) = true) (h : o.wp P a w K Q) : wpOp P ops Q i K a w := by
  unfold wpOp
  rw [hi]
  show if Region.wanted o (yielded ops a.tmps) = true then _ else _
  rw [if_pos hg]
  exact .inl h

theorem eval_ne {a : Act} {d e : Nat} {v : Value} (h : d ≠ e) : (a.put (some d) v).eval (.tmp e) = a.eval (.tmp e) :=
  Act.eval_put (dst := some d) (x := .tmp e) (by simp; exact fun hy => h hy.symm)

theorem eval_eq {a : Act} {d : Nat} {v : Value} (h : d < a.tmps.size) : (a.put (some d) v).eval (.tmp d) = v := by
  simp [Act.eval, Act.put, h]

theorem put_size {a : Act} {d : Nat} {v : Value} : (a.put (some d) v).tmps.size = a.tmps.size := by simp [Act.put]
end

end Go.Proofs.YtgjpchnkodnieaaGreatDoor
namespace Go.Proofs.YtgjpchnkodnieaaGreatDoor
open Go.RowKit

section
variable {o : Oper} {a : Act}
theorem rgF0 (x : Operand) (b : Nat) (ho : o.op = .fieldAddr 25 x 0) (hx : a.eval x = .pointer (some ⟨b, 0, none⟩)) (w : World) : (execOp a.eval o).run Tryz.prog w = .ok (.value (.pointer (some ⟨b, 0, none⟩))) w := by
  unfold execOp
  simp only [ho, hx]
  go_simp
theorem rgF1 (x : Operand) (b : Nat) (ho : o.op = .fieldAddr 25 x 1) (hx : a.eval x = .pointer (some ⟨b, 0, none⟩)) (w : World) : (execOp a.eval o).run Tryz.prog w = .ok (.value (.pointer (some ⟨b, 1, none⟩))) w := by
  unfold execOp
  simp only [ho, hx]
  go_simp
theorem rgF2 (x : Operand) (b : Nat) (ho : o.op = .fieldAddr 25 x 2) (hx : a.eval x = .pointer (some ⟨b, 0, none⟩)) (w : World) : (execOp a.eval o).run Tryz.prog w = .ok (.value (.pointer (some ⟨b, 2, none⟩))) w := by
  unfold execOp
  simp only [ho, hx]
  go_simp
theorem rgL (x : Operand) (p : Addr) {s : Option Addr} {l c : Nat} (ho : o.op = .load 23 x) (hx : a.eval x = .pointer (some p)) (w : World) (hc : w.cell? p = some (.slice s l c)) : (execOp a.eval o).run Tryz.prog w = .ok (.value (.slice s l c)) w := by
  unfold execOp
  simp only [ho, hx]
  go_simp
theorem rgI (x : Operand) (p : Addr) {z : Int} (ho : o.op = .load 3 x) (hx : a.eval x = .pointer (some p)) (w : World) (hc : w.cell? p = some (.int .i64 z)) : (execOp a.eval o).run Tryz.prog w = .ok (.value (.int .i64 z)) w := by
  unfold execOp
  simp only [ho, hx]
  go_simp
theorem rgM (x : Operand) {v : Value} (ho : o.op = .move x) (hx : a.eval x = v) (w : World) : (execOp a.eval o).run Tryz.prog w = .ok (.value v) w := by
  unfold execOp
  simp only [ho, hx]
  go_simp
theorem rg_mul (x y : Operand) {i j k : Int} (ho : o.op = .binOp .mul 3 x y 3) (hx : a.eval x = .int .i64 i) (hy : a.eval y = .int .i64 j) (hk : IntKind.i64.wrap (i * j) = k) (w : World) : (execOp a.eval o).run Tryz.prog w = .ok (.value (.int .i64 k)) w := by
  unfold execOp
  simp only [ho, hx, hy]
  go_simp
theorem rg_add (x y : Operand) {i j k : Int} (ho : o.op = .binOp .add 3 x y 3) (hx : a.eval x = .int .i64 i) (hy : a.eval y = .int .i64 j) (hk : IntKind.i64.wrap (i + j) = k) (w : World) : (execOp a.eval o).run Tryz.prog w = .ok (.value (.int .i64 k)) w := by
  unfold execOp
  simp only [ho, hx, hy]
  go_simp
theorem rg_rem (x y : Operand) {i j k : Nat} (ho : o.op = .binOp .rem 3 x y 3) (hx : a.eval x = .int .i64 (i : Nat)) (hy : a.eval y = .int .i64 (j : Nat)) (hk : 0 < j ∧ i % j = k ∧ j ≤ 4611686018427387904) (w : World) : (execOp a.eval o).run Tryz.prog w = .ok (.value (.int .i64 (k : Nat))) w := by
  obtain ⟨h0, hk, hj⟩ := hk
  have hjz : ¬ (j : Int) = 0 := by omega
  have hjn : ¬ j = 0 := by omega
  have h2 : (i : Int).tmod (j : Int) = (k : Int) := by rw [Int.tmod_eq_emod_of_nonneg (by omega), ← hk]; rfl
  have hkj : k < j := by rw [← hk]; exact Nat.mod_lt _ h0
  have h3 : IntKind.i64.wrap (k : Int) = (k : Int) := by rw [IntKind.wrap_i64]; omega
  unfold execOp
  simp only [ho, hx, hy]
  go_simp
theorem rgN (t : Nat) {s : Option Addr} {l c : Nat} (ho : o.op = .call { callee := .builtin .len, args := #[.tmp t], argTypes := #[23] }) (hx : a.eval (.tmp t) = .slice s l c) (w : World) : (execOp a.eval o).run Tryz.prog w = .ok (.value (.int .i64 (l : Nat))) w := by
  have hx' : a.tmps[t]?.getD undef = .slice s l c := by simpa [Act.eval] using hx
  unfold execOp
  simp only [ho]
  go_simp
theorem rgX (x y : Operand) {b off m c J : Nat} (ho : o.op = .indexAddr 23 x y) (hx : a.eval x = .slice (some ⟨b, off, none⟩) m c) (hy : a.eval y = .int .i64 (J : Nat)) (hJ : J < m) (w : World) : (execOp a.eval o).run Tryz.prog w = .ok (.value (.pointer (some ⟨b, off + J, none⟩))) w := by
  have h1 : (J : Int) < (m : Int) := by omega
  unfold execOp
  simp only [ho, hx, hy]
  go_simp
theorem rgS1 (t : Nat) {z : Int} (ho : o.op = .buildSlice 23 1 #[(0, .tmp t)]) (hx : a.eval (.tmp t) = .int .i64 z) (w : World) : (execOp a.eval o).run Tryz.prog w = .ok (.value (.slice (some ⟨w.heap.size, 0, none⟩) 1 1)) (w.alloc (.cells #[.int .i64 z] 3)) := by
  have hx' : a.tmps[t]?.getD undef = .int .i64 z := by simpa [Act.eval] using hx
  unfold execOp
  simp only [ho]
  go_simp
theorem rgSt (x y : Operand) (p : Nat) {v1 : Value} {s : Option Addr} {l c : Nat} (ho : o.op = .store 23 x y) (hx : a.eval x = .pointer (some ⟨p, 2, none⟩)) (hy : a.eval y = .slice s l c) (w : World) (hc : w.cell? ⟨p, 2, none⟩ = some v1) (hf : w.frozen? ⟨p, 2, none⟩ = false) : (execOp a.eval o).run Tryz.prog w = .ok .skip (w.setCell ⟨p, 2, none⟩ (.slice s l c)) := by
  unfold execOp
  simp only [ho, hx, hy]
  go_simp
theorem put_nothing {a : Act} {v : Value} : a.put none v = a := rfl
theorem wanted_free {o : Oper} {y : Nat → Option Bool} (h : o.guard = none) : Region.wanted o y = true := by simp [Region.wanted, h]
end

end Go.Proofs.YtgjpchnkodnieaaGreatDoor
namespace Go.Proofs.YtgjpchnkodnieaaGreatDoor
open Go.RowKit

/-- A slice that reads as zs and is nil only where it is empty. -/
def Src (w : World) (s : Option Addr) (n _c : Nat) (zs : List Int) : Prop := Row w s n zs ∧ ((∃ ad, s = some ad) ∨ (s = none ∧ n = 0))
theorem Src.below {w w' : World} {s : Option Addr} {n c B : Nat} {zs : List Int} (h : Src w s n c zs) (hB : w.heap.size ≤ B) (hb : Below B w w') : Src w' s n c zs := ⟨h.1.below hB hb, h.2⟩
theorem Src.some {w : World} {s : Addr} {n c : Nat} {zs : List Int} (h : Row w (some s) n zs) : Src w (some s) n c zs := ⟨h, .inl ⟨s, rfl⟩⟩
theorem Src.none (w : World) : Src w none 0 0 [] := ⟨row_nil _ _, .inr ⟨rfl, rfl⟩⟩
theorem Src.of {w : World} {s : Option Addr} {n c : Nat} {zs : List Int} (h : Row w s n zs) : Src w s n c zs := by
  cases s with
  | some a => exact Src.some h
  | none => exact ⟨h, .inr ⟨rfl, (row_none h).1⟩⟩

def oLw_0 : Oper := { dst := some 3, op := Op.fieldAddr 25 (Operand.tmp 1) 0, type := 0, pos := "laws.go:46", after := #[], guard := none }
def oLw_1 : Oper := { dst := some 4, op := Op.load 4 (Operand.tmp 3), type := 4, pos := "laws.go:46", after := #[{ on := 0, ground := Ground.data }], guard := none }
def oLw_2 : Oper := { dst := some 5, op := Op.buildSlice 23 0 #[], type := 23, pos := "laws.go:46", after := #[], guard := none }
def oLw_3 : Oper := { dst := some 6, op := Op.fieldAddr 25 (Operand.tmp 1) 1, type := 0, pos := "laws.go:46", after := #[], guard := none }
def oLw_4 : Oper := { dst := some 7, op := Op.load 23 (Operand.tmp 6), type := 23, pos := "laws.go:46", after := #[{ on := 3, ground := Ground.data }], guard := none }
def oLw_5 : Oper := { dst := some 8, op := Op.call { callee := Callee.builtin Builtin.append, args := #[Operand.tmp 5, Operand.tmp 7], argTypes := #[23, 23] }, type := 23, pos := "laws.go:46", after := #[{ on := 2, ground := Ground.data }, { on := 4, ground := Ground.data }], guard := none }
def oLw_6 : Oper := { dst := some 9, op := Op.buildSlice 23 0 #[], type := 23, pos := "laws.go:46", after := #[], guard := none }
def oLw_7 : Oper := { dst := some 10, op := Op.fieldAddr 25 (Operand.tmp 1) 2, type := 0, pos := "laws.go:46", after := #[], guard := none }
def oLw_8 : Oper := { dst := some 11, op := Op.load 23 (Operand.tmp 10), type := 23, pos := "laws.go:46", after := #[{ on := 7, ground := Ground.data }], guard := none }
def oLw_9 : Oper := { dst := some 12, op := Op.call { callee := Callee.builtin Builtin.append, args := #[Operand.tmp 9, Operand.tmp 11], argTypes := #[23, 23] }, type := 23, pos := "laws.go:46", after := #[{ on := 6, ground := Ground.data }, { on := 8, ground := Ground.data }, { on := 5, ground := Ground.chain }], guard := none }
def oLw_10 : Oper := { dst := some 13, op := Op.build 25 #[(0, Operand.tmp 4), (1, Operand.tmp 8), (2, Operand.tmp 12)], type := 25, pos := "laws.go:46", after := #[{ on := 1, ground := Ground.data }, { on := 5, ground := Ground.data }, { on := 9, ground := Ground.data }], guard := none }
def oLw_11 : Oper := { dst := none, op := Op.store 25 (Operand.tmp 2) (Operand.tmp 13), type := 0, pos := "laws.go:46", after := #[{ on := 10, ground := Ground.data }, { on := 9, ground := Ground.chain }, { on := 0, ground := Ground.phase }, { on := 1, ground := Ground.phase }, { on := 2, ground := Ground.phase }, { on := 3, ground := Ground.phase }, { on := 4, ground := Ground.phase }, { on := 5, ground := Ground.phase }, { on := 6, ground := Ground.phase }, { on := 7, ground := Ground.phase }, { on := 8, ground := Ground.phase }, { on := 9, ground := Ground.phase }, { on := 10, ground := Ground.phase }], guard := none }

/-- laws.lwArray's region 1. -/
def opsLw : Array Oper := #[oLw_0, oLw_1, oLw_2, oLw_3, oLw_4, oLw_5, oLw_6, oLw_7, oLw_8, oLw_9, oLw_10, oLw_11]

section
variable {P : Program} {ops : Array Oper} {Q : Exit → Act → World → Prop} {md : Region.Mode} {S : World → Prop} {st : Nat}
theorem wpAnyL_two {i j : Nat} {fuel : Nat} {listed : Array Bool} {a : Act} {w : World} (hr : Region.ready md ops listed = [i, j])
    (h : wpOp P ops Q i (fun a' w' => (i ≠ st → S w') ∧ wpAnyL P md ops Q S st fuel (listed.setIfInBounds i true) a' w') a w)
    (h' : wpOp P ops Q j (fun a' w' => (j ≠ st → S w') ∧ wpAnyL P md ops Q S st fuel (listed.setIfInBounds j true) a' w') a w) : wpAnyL P md ops Q S st (fuel + 1) listed a w :=
  ⟨fun h0 => (by rw [hr] at h0; cases h0), fun k hk => (by rw [hr] at hk; simp at hk; rcases hk with rfl | rfl <;> assumption)⟩
end

section
variable {o : Oper} {a : Act}
theorem rgS0 (ho : o.op = .buildSlice 23 0 #[]) (w : World) : (execOp a.eval o).run Tryz.prog w = .ok (.value (.slice (some ⟨w.heap.size, 0, none⟩) 0 0)) (w.alloc (.cells #[] 3)) := by
  unfold execOp
  simp only [ho]
  go_simp
theorem rgBool (x : Operand) (p : Addr) {z : Bool} (ho : o.op = .load 4 x) (hx : a.eval x = .pointer (some p)) (w : World) (hc : w.cell? p = some (.bool z)) : (execOp a.eval o).run Tryz.prog w = .ok (.value (.bool z)) w := by
  unfold execOp
  simp only [ho, hx]
  go_simp
theorem rgStruct (i j k : Nat) {z : Bool} {s1 s2 : Option Addr} {m1 d1 m2 d2 : Nat} (ho : o.op = .build 25 #[(0, .tmp i), (1, .tmp j), (2, .tmp k)]) (h0 : a.eval (.tmp i) = .bool z) (h1 : a.eval (.tmp j) = .slice s1 m1 d1) (h2 : a.eval (.tmp k) = .slice s2 m2 d2) (w : World) : (execOp a.eval o).run Tryz.prog w = .ok (.value (.agg #[.bool z, .slice s1 m1 d1, .slice s2 m2 d2])) w := by
  have h0' : a.tmps[i]?.getD undef = .bool z := by simpa [Act.eval] using h0
  have h1' : a.tmps[j]?.getD undef = .slice s1 m1 d1 := by simpa [Act.eval] using h1
  have h2' : a.tmps[k]?.getD undef = .slice s2 m2 d2 := by simpa [Act.eval] using h2
  unfold execOp
  simp only [ho]
  go_simp
theorem rgStoreA (x y : Operand) (p : Nat) {c c' : Bool} {u1 u2 : Value} {s1 s2 : Option Addr} {m1 d1 m2 d2 : Nat} (ho : o.op = .store 25 x y) (hx : a.eval x = .pointer (some ⟨p, 0, none⟩)) (hy : a.eval y = .agg #[.bool c', .slice s1 m1 d1, .slice s2 m2 d2]) (w : World) (hb : Box w p c u1 u2) : (execOp a.eval o).run Tryz.prog w = .ok .skip (((w.setCell ⟨p, 0, none⟩ (.bool c')).setCell ⟨p, 1, none⟩ (.slice s1 m1 d1)).setCell ⟨p, 2, none⟩ (.slice s2 m2 d2)) := by
  obtain ⟨y0, y1, y2, y3, y4, y5, y6⟩ := hb.all
  unfold execOp
  simp only [ho, hx, hy]
  go_simp
end

theorem row_news {w : World} {s : Addr} {n : Nat} {zs : List Int} (h : Row w (some s) n zs) : ∀ (j : Nat) u, (zs.map (Value.int .i64))[j]? = some u → w.cell? (s.add j) = some u := by
  intro j u hj
  have hl := h.len
  have hjn : j < n := by
    rcases Nat.lt_or_ge j n with h' | h'
    · exact h'
    · rw [List.getElem?_eq_none (by rw [List.length_map]; omega)] at hj
      cases hj
  obtain ⟨b, o, hab, _, hc⟩ := h.get hjn
  cases hab
  have hadd : (⟨b, o, none⟩ : Addr).add j = ⟨b, o + j, none⟩ := by unfold Addr.add; split <;> simp_all
  rw [hadd, hc]
  have hjz : j < zs.length := by omega
  simp [List.getElem?_eq_getElem hjz] at hj
  simp [List.getD, List.getElem?_eq_getElem hjz, hj]

theorem ints_one (zs : List Int) : ∀ u ∈ zs.map (Value.int .i64), u.oneCell' = true := by
  intro u hu
  obtain ⟨x, _, rfl⟩ := List.mem_map.1 hu
  rfl

theorem put_defers {a : Act} {d : Nat} {v : Value} : (a.put (some d) v).defers = a.defers := rfl

theorem wp_append_src {P : Program} (w : World) {o : Oper} {a : Act} {K : Act → World → Prop} {Q : Exit → Act → World → Prop} (s x : Operand) (t : TypeId)
    (ho : o.op = .call { callee := .builtin .append, args := #[s, x], argTypes := #[t, t] })
    (base : Nat) (e : TypeId) (i : TypeInfo) (ht : P.underlying t = some (.slice e)) (hi : P.info? e = some i) (hz : i.zero = some (.int .i64 0))
    (hsize : i.size = 1) (hby : i.bytes = 8)
    (g0 : Nat) (hs : a.eval s = .slice (some ⟨g0, 0, none⟩) 0 0) (hown : w.ownsRow base e 1 (.slice (some ⟨g0, 0, none⟩) 0 0) 0 [])
    (ad : Option Addr) (m c : Nat) (zs : List Int) (hx : a.eval x = .slice ad m c) (hsrc : Src w ad m c zs) (hm : m ≤ 20000) (hbase : base ≤ w.heap.size)
    (h : ∀ g cap w', w'.ownsRow base e 1 (.slice (some ⟨g, 0, none⟩) m cap) m (zs.map (Value.int .i64)) → w.grownBy w' (some g0) → (g = g0 ∨ g = w.heap.size) → K (a.put o.dst (.slice (some ⟨g, 0, none⟩) m cap)) w') : o.wp P a w K Q := by
  obtain ⟨hrow, hk⟩ := hsrc
  have hlen := hrow.len
  rcases hk with ⟨ad, rfl⟩ | ⟨rfl, rfl⟩
  · refine wp_append_some w s x t ho base e i (.int .i64 0) 1 8 ht hi hz hsize hby rfl (by decide) g0 0 0 [] hs hown ad m c (zs.map (Value.int .i64)) hx (by simp [hlen]) (row_news hrow) (ints_one _) (by unfold maxLen; omega) (by omega) hbase ?_
    intro g d w' ho' hg hat
    rw [Nat.zero_add] at ho' ⊢
    exact h g d w' (by simpa using ho') hg hat
  · have hrun := run_append_nocap (P := P) (w := w) base t o.type e i 1 ht hi _ 0 [] hown c
    obtain rfl : zs = [] := List.length_eq_zero_iff.1 hlen
    unfold Oper.wp execOp
    simp only [ho, resolve, invoke, builtin, Sem.run_bind, Sem.run_pure, Result.andThen_ok, List.map_toArray, List.map_cons, List.map_nil, hs, hx, hrun]
    exact h g0 0 w hown ⟨rfl, rfl, rfl, Nat.le_refl _, fun _ _ _ => rfl⟩ (.inl rfl)

/-- How far the two copies have come: 0 not begun, 1 an empty row lies, 2 copied. -/
structure LwS (W : World) (p q : Nat) (c : Bool) (s1 s2 : Option Addr) (n1 n2 c1 c2 : Nat) (sh dt : List Int) (A B gA gB dA dB : Nat) (a : Act) (wx : World) : Prop where
  low : Below W.heap.size W wx
  size : 14 ≤ a.tmps.size
  df : a.defers = []
  e2 : a.eval (.tmp 2) = .pointer (some ⟨q, 0, none⟩)
  e4 : a.eval (.tmp 4) = .bool c
  e7 : a.eval (.tmp 7) = .slice s1 n1 c1
  e11 : a.eval (.tmp 11) = .slice s2 n2 c2
  a1 : A = 1 → a.eval (.tmp 5) = .slice (some ⟨gA, 0, none⟩) 0 0 ∧ wx.ownsRow W.heap.size 3 1 (.slice (some ⟨gA, 0, none⟩) 0 0) 0 []
  a2 : A = 2 → a.eval (.tmp 8) = .slice (some ⟨gA, 0, none⟩) n1 dA ∧ wx.ownsRow W.heap.size 3 1 (.slice (some ⟨gA, 0, none⟩) n1 dA) n1 (sh.map (Value.int .i64))
  b1 : B = 1 → a.eval (.tmp 9) = .slice (some ⟨gB, 0, none⟩) 0 0 ∧ wx.ownsRow W.heap.size 3 1 (.slice (some ⟨gB, 0, none⟩) 0 0) 0 []
  b2 : B = 2 → a.eval (.tmp 12) = .slice (some ⟨gB, 0, none⟩) n2 dB ∧ wx.ownsRow W.heap.size 3 1 (.slice (some ⟨gB, 0, none⟩) n2 dB) n2 (dt.map (Value.int .i64))
  la : A ≠ 0 → gA < wx.heap.size
  lb : B ≠ 0 → gB < wx.heap.size
  ne : A ≠ 0 → B ≠ 0 → gA ≠ gB

section
variable {W wx w' : World} {p q n1 n2 c1 c2 A B gA gB dA dB g d : Nat} {c : Bool} {s1 s2 : Option Addr} {sh dt : List Int} {a : Act}
theorem lw_owns {v : Value} {n : Nat} {xs : List Value} (h : wx.ownsRow W.heap.size 3 1 v n xs) : (wx.alloc (.cells #[] 3)).ownsRow W.heap.size 3 1 v n xs := h.alloc _
theorem lw_grown {n cap k : Nat} {xs : List Value} (h : wx.ownsRow W.heap.size 3 1 (.slice (some ⟨k, 0, none⟩) n cap) n xs) (hg : wx.grownBy w' (some g)) (hk : k ≠ g) : w'.ownsRow W.heap.size 3 1 (.slice (some ⟨k, 0, none⟩) n cap) n xs := by
  refine ⟨h.1, ?_⟩
  rcases h.2 with ⟨e, _⟩ | ⟨g', cap', cur, e, hge, hh, hr⟩
  · cases e
  · cases e
    exact .inr ⟨_, _, cur, rfl, hge, (hg.block _ (lt_of_block hh) (fun e => hk (by simpa using e))).trans hh, hr⟩
theorem lw_low (h : Below W.heap.size W wx) (hg : wx.grownBy w' (some g)) (hge : W.heap.size ≤ g) : Below W.heap.size W w' :=
  ⟨hg.os.trans h.os, hg.tape.trans h.tape, hg.output.trans h.output, Nat.le_trans h.size hg.size, fun k hk => (hg.block k (by have := h.size; omega) (fun e => by have := (Option.some.inj e : k = g); omega)).trans (h.block k hk)⟩
theorem lw_from {n cap k : Nat} {xs : List Value} (h : wx.ownsRow W.heap.size 3 1 (.slice (some ⟨k, 0, none⟩) n cap) n xs) : W.heap.size ≤ k := by
  rcases h.2 with ⟨e, _⟩ | ⟨g', cap', cur, e, hge, hh, hr⟩
  · cases e
  · cases e; exact hge
theorem lw_lt {n cap k : Nat} {xs : List Value} (h : wx.ownsRow W.heap.size 3 1 (.slice (some ⟨k, 0, none⟩) n cap) n xs) : k < wx.heap.size := by
  rcases h.2 with ⟨e, _⟩ | ⟨g', cap', cur, e, hge, hh, hr⟩
  · cases e
  · cases e; exact lt_of_block hh

theorem LwS.buildA (h : LwS W p q c s1 s2 n1 n2 c1 c2 sh dt 0 B gA gB dA dB a wx) : LwS W p q c s1 s2 n1 n2 c1 c2 sh dt 1 B wx.heap.size gB dA dB (a.put (some 5) (.slice (some ⟨wx.heap.size, 0, none⟩) 0 0)) (wx.alloc (.cells #[] 3)) :=
  ⟨h.low.alloc h.low.size _, by rw [put_size]; exact h.size, by rw [put_defers]; exact h.df, by rw [eval_ne (by decide)]; exact h.e2, by rw [eval_ne (by decide)]; exact h.e4, by rw [eval_ne (by decide)]; exact h.e7, by rw [eval_ne (by decide)]; exact h.e11,
    fun _ => ⟨eval_eq (by have := h.size; omega), (Blk.new wx).owns h.low.size⟩, fun e => by omega,
    fun e => ⟨by rw [eval_ne (by decide)]; exact (h.b1 e).1, lw_owns (h.b1 e).2⟩, fun e => ⟨by rw [eval_ne (by decide)]; exact (h.b2 e).1, lw_owns (h.b2 e).2⟩,
    fun _ => by simp, fun e => by have := h.lb e; simp; omega, fun _ e => by have := h.lb e; omega⟩
theorem LwS.buildB (h : LwS W p q c s1 s2 n1 n2 c1 c2 sh dt A 0 gA gB dA dB a wx) : LwS W p q c s1 s2 n1 n2 c1 c2 sh dt A 1 gA wx.heap.size dA dB (a.put (some 9) (.slice (some ⟨wx.heap.size, 0, none⟩) 0 0)) (wx.alloc (.cells #[] 3)) :=
  ⟨h.low.alloc h.low.size _, by rw [put_size]; exact h.size, by rw [put_defers]; exact h.df, by rw [eval_ne (by decide)]; exact h.e2, by rw [eval_ne (by decide)]; exact h.e4, by rw [eval_ne (by decide)]; exact h.e7, by rw [eval_ne (by decide)]; exact h.e11,
    fun e => ⟨by rw [eval_ne (by decide)]; exact (h.a1 e).1, lw_owns (h.a1 e).2⟩, fun e => ⟨by rw [eval_ne (by decide)]; exact (h.a2 e).1, lw_owns (h.a2 e).2⟩,
    fun _ => ⟨eval_eq (by have := h.size; omega), (Blk.new wx).owns h.low.size⟩, fun e => by omega,
    fun e => by have := h.la e; simp; omega, fun _ => by simp, fun e _ => by have := h.la e; omega⟩
theorem LwS.appA (h : LwS W p q c s1 s2 n1 n2 c1 c2 sh dt 1 B gA gB dA dB a wx) (ho : w'.ownsRow W.heap.size 3 1 (.slice (some ⟨g, 0, none⟩) n1 d) n1 (sh.map (Value.int .i64))) (hg : wx.grownBy w' (some gA)) (hat : g = gA ∨ g = wx.heap.size) : LwS W p q c s1 s2 n1 n2 c1 c2 sh dt 2 B g gB d dB (a.put (some 8) (.slice (some ⟨g, 0, none⟩) n1 d)) w' :=
  ⟨lw_low h.low hg (lw_from (h.a1 rfl).2), by rw [put_size]; exact h.size, by rw [put_defers]; exact h.df, by rw [eval_ne (by decide)]; exact h.e2, by rw [eval_ne (by decide)]; exact h.e4, by rw [eval_ne (by decide)]; exact h.e7, by rw [eval_ne (by decide)]; exact h.e11,
    fun e => by omega, fun _ => ⟨eval_eq (by have := h.size; omega), ho⟩,
    fun e => ⟨by rw [eval_ne (by decide)]; exact (h.b1 e).1, lw_grown (h.b1 e).2 hg (h.ne (by omega) (by omega)).symm⟩, fun e => ⟨by rw [eval_ne (by decide)]; exact (h.b2 e).1, lw_grown (h.b2 e).2 hg (h.ne (by omega) (by omega)).symm⟩,
    fun _ => lw_lt ho, fun e => Nat.lt_of_lt_of_le (h.lb e) hg.size, fun _ e => by have h1 := h.lb e; have h2 := h.ne (by omega) e; rcases hat with rfl | rfl <;> omega⟩
theorem LwS.appB (h : LwS W p q c s1 s2 n1 n2 c1 c2 sh dt A 1 gA gB dA dB a wx) (ho : w'.ownsRow W.heap.size 3 1 (.slice (some ⟨g, 0, none⟩) n2 d) n2 (dt.map (Value.int .i64))) (hg : wx.grownBy w' (some gB)) (hat : g = gB ∨ g = wx.heap.size) : LwS W p q c s1 s2 n1 n2 c1 c2 sh dt A 2 gA g dA d (a.put (some 12) (.slice (some ⟨g, 0, none⟩) n2 d)) w' :=
  ⟨lw_low h.low hg (lw_from (h.b1 rfl).2), by rw [put_size]; exact h.size, by rw [put_defers]; exact h.df, by rw [eval_ne (by decide)]; exact h.e2, by rw [eval_ne (by decide)]; exact h.e4, by rw [eval_ne (by decide)]; exact h.e7, by rw [eval_ne (by decide)]; exact h.e11,
    fun e => ⟨by rw [eval_ne (by decide)]; exact (h.a1 e).1, lw_grown (h.a1 e).2 hg (h.ne (by omega) (by omega))⟩, fun e => ⟨by rw [eval_ne (by decide)]; exact (h.a2 e).1, lw_grown (h.a2 e).2 hg (h.ne (by omega) (by omega))⟩,
    fun e => by omega, fun _ => ⟨eval_eq (by have := h.size; omega), ho⟩,
    fun e => Nat.lt_of_lt_of_le (h.la e) hg.size, fun _ => lw_lt ho, fun e _ => by have h1 := h.la e; have h2 := h.ne e (by omega); rcases hat with rfl | rfl <;> omega⟩
end

section
variable {Q : Exit → Act → World → Prop} (W : World) (p q : Nat) (c : Bool) (s1 s2 : Option Addr) (n1 n2 c1 c2 : Nat) (sh dt : List Int)
theorem lw_22 (u1 u2 : Value) (hq : Box W q false u1 u2) (hend : ∀ a g1 g2 d1 d2 wx, LwS W p q c s1 s2 n1 n2 c1 c2 sh dt 2 2 g1 g2 d1 d2 a wx → Q .normal (a.put (some 13) (.agg #[.bool c, .slice (some ⟨g1, 0, none⟩) n1 d1, .slice (some ⟨g2, 0, none⟩) n2 d2])) (((wx.setCell ⟨q, 0, none⟩ (.bool c)).setCell ⟨q, 1, none⟩ (.slice (some ⟨g1, 0, none⟩) n1 d1)).setCell ⟨q, 2, none⟩ (.slice (some ⟨g2, 0, none⟩) n2 d2))) (a : Act) (gA gB dA dB : Nat) (wx : World) (h : LwS W p q c s1 s2 n1 n2 c1 c2 sh dt 2 2 gA gB dA dB a wx) : wpAnyL Tryz.prog .any opsLw Q (fun wx => Below W.heap.size W wx) 11 2 #[true, true, true, true, true, true, true, true, true, true, false, false] a wx := by
  refine wpAnyL_one (i := 10) (by kernel_rfl) ?_
  refine op_wp (o := oLw_10) rfl (wanted_free rfl) ?_
  unfold Oper.wp
  rw [rgStruct (o := oLw_10) 4 8 12 rfl h.e4 (h.a2 rfl).1 (h.b2 rfl).1 wx]
  refine ⟨fun _ => h.low, ?_⟩
  show wpAnyL _ _ _ _ _ _ (0 + 1) _ (Act.put _ (some 13) _) _
  refine wpAnyL_one (i := 11) (by kernel_rfl) ?_
  refine op_wp (o := oLw_11) rfl (wanted_free rfl) ?_
  unfold Oper.wp
  rw [rgStoreA (o := oLw_11) (.tmp 2) (.tmp 13) q (c' := c) (s1 := some ⟨gA, 0, none⟩) (s2 := some ⟨gB, 0, none⟩) (m1 := n1) (d1 := dA) (m2 := n2) (d2 := dB) rfl (by rw [eval_ne (by decide)]; exact h.e2) (eval_eq (by have := h.size; omega)) wx (hq.below (Nat.le_refl _) h.low)]
  refine ⟨fun h => absurd rfl h, ?_⟩
  refine wpAnyL_done (by kernel_rfl) ?_ _
  rw [show oLw_11.dst = none from rfl, put_nothing]
  exact hend a gA gB dA dB wx h

theorem lw_21 (r2 : Src W s2 n2 c2 dt) (h2 : n2 ≤ 20000) (u1 u2 : Value) (hq : Box W q false u1 u2) (hend : ∀ a g1 g2 d1 d2 wx, LwS W p q c s1 s2 n1 n2 c1 c2 sh dt 2 2 g1 g2 d1 d2 a wx → Q .normal (a.put (some 13) (.agg #[.bool c, .slice (some ⟨g1, 0, none⟩) n1 d1, .slice (some ⟨g2, 0, none⟩) n2 d2])) (((wx.setCell ⟨q, 0, none⟩ (.bool c)).setCell ⟨q, 1, none⟩ (.slice (some ⟨g1, 0, none⟩) n1 d1)).setCell ⟨q, 2, none⟩ (.slice (some ⟨g2, 0, none⟩) n2 d2))) (a : Act) (gA gB dA dB : Nat) (wx : World) (h : LwS W p q c s1 s2 n1 n2 c1 c2 sh dt 2 1 gA gB dA dB a wx) : wpAnyL Tryz.prog .any opsLw Q (fun wx => Below W.heap.size W wx) 11 3 #[true, true, true, true, true, true, true, true, true, false, false, false] a wx := by
  obtain ⟨i0, hi, hz0, hz1, hz2⟩ := info_parts info_int
  refine wpAnyL_one (i := 9) (by kernel_rfl) ?_
  ·
    have hL : (#[true, true, true, true, true, true, true, true, true, false, false, false] : Array Bool).setIfInBounds 9 true = #[true, true, true, true, true, true, true, true, true, true, false, false] := by kernel_rfl
    refine op_wp (o := oLw_9) rfl (wanted_free rfl) ?_
    have hrow := r2.below (Nat.le_refl _) h.low
    refine wp_append_src wx (.tmp 9) (.tmp 11) 23 rfl W.heap.size 3 i0 Tryz.underlying23 hi hz0 hz1 hz2 gB (h.b1 rfl).1 (h.b1 rfl).2 s2 n2 c2 dt h.e11 hrow (by omega) h.low.size ?_
    intro g d w' ho hg hat
    have h' := h.appB ho hg hat
    refine ⟨fun _ => h'.low, ?_⟩
    rw [hL]
    exact lw_22 W p q c s1 s2 n1 n2 c1 c2 sh dt u1 u2 hq hend _ _ _ _ _ _ h'

theorem lw_20 (r2 : Src W s2 n2 c2 dt) (h2 : n2 ≤ 20000) (u1 u2 : Value) (hq : Box W q false u1 u2) (hend : ∀ a g1 g2 d1 d2 wx, LwS W p q c s1 s2 n1 n2 c1 c2 sh dt 2 2 g1 g2 d1 d2 a wx → Q .normal (a.put (some 13) (.agg #[.bool c, .slice (some ⟨g1, 0, none⟩) n1 d1, .slice (some ⟨g2, 0, none⟩) n2 d2])) (((wx.setCell ⟨q, 0, none⟩ (.bool c)).setCell ⟨q, 1, none⟩ (.slice (some ⟨g1, 0, none⟩) n1 d1)).setCell ⟨q, 2, none⟩ (.slice (some ⟨g2, 0, none⟩) n2 d2))) (a : Act) (gA gB dA dB : Nat) (wx : World) (h : LwS W p q c s1 s2 n1 n2 c1 c2 sh dt 2 0 gA gB dA dB a wx) : wpAnyL Tryz.prog .any opsLw Q (fun wx => Below W.heap.size W wx) 11 4 #[true, true, true, true, true, true, false, true, true, false, false, false] a wx := by
  obtain ⟨i0, hi, hz0, hz1, hz2⟩ := info_parts info_int
  refine wpAnyL_one (i := 6) (by kernel_rfl) ?_
  ·
    have hL : (#[true, true, true, true, true, true, false, true, true, false, false, false] : Array Bool).setIfInBounds 6 true = #[true, true, true, true, true, true, true, true, true, false, false, false] := by kernel_rfl
    refine op_wp (o := oLw_6) rfl (wanted_free rfl) ?_
    unfold Oper.wp
    rw [rgS0 (o := oLw_6) rfl wx]
    refine ⟨fun _ => h.buildB.low, ?_⟩
    rw [hL]
    exact lw_21 W p q c s1 s2 n1 n2 c1 c2 sh dt r2 h2 u1 u2 hq hend _ _ _ _ _ _ h.buildB

theorem lw_11 (r1 : Src W s1 n1 c1 sh) (r2 : Src W s2 n2 c2 dt) (h1 : n1 ≤ 20000) (h2 : n2 ≤ 20000) (u1 u2 : Value) (hq : Box W q false u1 u2) (hend : ∀ a g1 g2 d1 d2 wx, LwS W p q c s1 s2 n1 n2 c1 c2 sh dt 2 2 g1 g2 d1 d2 a wx → Q .normal (a.put (some 13) (.agg #[.bool c, .slice (some ⟨g1, 0, none⟩) n1 d1, .slice (some ⟨g2, 0, none⟩) n2 d2])) (((wx.setCell ⟨q, 0, none⟩ (.bool c)).setCell ⟨q, 1, none⟩ (.slice (some ⟨g1, 0, none⟩) n1 d1)).setCell ⟨q, 2, none⟩ (.slice (some ⟨g2, 0, none⟩) n2 d2))) (a : Act) (gA gB dA dB : Nat) (wx : World) (h : LwS W p q c s1 s2 n1 n2 c1 c2 sh dt 1 1 gA gB dA dB a wx) : wpAnyL Tryz.prog .any opsLw Q (fun wx => Below W.heap.size W wx) 11 4 #[true, true, true, true, true, false, true, true, true, false, false, false] a wx := by
  obtain ⟨i0, hi, hz0, hz1, hz2⟩ := info_parts info_int
  refine wpAnyL_one (i := 5) (by kernel_rfl) ?_
  ·
    have hL : (#[true, true, true, true, true, false, true, true, true, false, false, false] : Array Bool).setIfInBounds 5 true = #[true, true, true, true, true, true, true, true, true, false, false, false] := by kernel_rfl
    refine op_wp (o := oLw_5) rfl (wanted_free rfl) ?_
    have hrow := r1.below (Nat.le_refl _) h.low
    refine wp_append_src wx (.tmp 5) (.tmp 7) 23 rfl W.heap.size 3 i0 Tryz.underlying23 hi hz0 hz1 hz2 gA (h.a1 rfl).1 (h.a1 rfl).2 s1 n1 c1 sh h.e7 hrow (by omega) h.low.size ?_
    intro g d w' ho hg hat
    have h' := h.appA ho hg hat
    refine ⟨fun _ => h'.low, ?_⟩
    rw [hL]
    exact lw_21 W p q c s1 s2 n1 n2 c1 c2 sh dt r2 h2 u1 u2 hq hend _ _ _ _ _ _ h'

theorem lw_10 (r1 : Src W s1 n1 c1 sh) (r2 : Src W s2 n2 c2 dt) (h1 : n1 ≤ 20000) (h2 : n2 ≤ 20000) (u1 u2 : Value) (hq : Box W q false u1 u2) (hend : ∀ a g1 g2 d1 d2 wx, LwS W p q c s1 s2 n1 n2 c1 c2 sh dt 2 2 g1 g2 d1 d2 a wx → Q .normal (a.put (some 13) (.agg #[.bool c, .slice (some ⟨g1, 0, none⟩) n1 d1, .slice (some ⟨g2, 0, none⟩) n2 d2])) (((wx.setCell ⟨q, 0, none⟩ (.bool c)).setCell ⟨q, 1, none⟩ (.slice (some ⟨g1, 0, none⟩) n1 d1)).setCell ⟨q, 2, none⟩ (.slice (some ⟨g2, 0, none⟩) n2 d2))) (a : Act) (gA gB dA dB : Nat) (wx : World) (h : LwS W p q c s1 s2 n1 n2 c1 c2 sh dt 1 0 gA gB dA dB a wx) : wpAnyL Tryz.prog .any opsLw Q (fun wx => Below W.heap.size W wx) 11 5 #[true, true, true, true, true, false, false, true, true, false, false, false] a wx := by
  obtain ⟨i0, hi, hz0, hz1, hz2⟩ := info_parts info_int
  refine wpAnyL_two (i := 5) (j := 6) (by kernel_rfl) ?_ ?_
  ·
    have hL : (#[true, true, true, true, true, false, false, true, true, false, false, false] : Array Bool).setIfInBounds 5 true = #[true, true, true, true, true, true, false, true, true, false, false, false] := by kernel_rfl
    refine op_wp (o := oLw_5) rfl (wanted_free rfl) ?_
    have hrow := r1.below (Nat.le_refl _) h.low
    refine wp_append_src wx (.tmp 5) (.tmp 7) 23 rfl W.heap.size 3 i0 Tryz.underlying23 hi hz0 hz1 hz2 gA (h.a1 rfl).1 (h.a1 rfl).2 s1 n1 c1 sh h.e7 hrow (by omega) h.low.size ?_
    intro g d w' ho hg hat
    have h' := h.appA ho hg hat
    refine ⟨fun _ => h'.low, ?_⟩
    rw [hL]
    exact lw_20 W p q c s1 s2 n1 n2 c1 c2 sh dt r2 h2 u1 u2 hq hend _ _ _ _ _ _ h'
  ·
    have hL : (#[true, true, true, true, true, false, false, true, true, false, false, false] : Array Bool).setIfInBounds 6 true = #[true, true, true, true, true, false, true, true, true, false, false, false] := by kernel_rfl
    refine op_wp (o := oLw_6) rfl (wanted_free rfl) ?_
    unfold Oper.wp
    rw [rgS0 (o := oLw_6) rfl wx]
    refine ⟨fun _ => h.buildB.low, ?_⟩
    rw [hL]
    exact lw_11 W p q c s1 s2 n1 n2 c1 c2 sh dt r1 r2 h1 h2 u1 u2 hq hend _ _ _ _ _ _ h.buildB

theorem lw_01 (r1 : Src W s1 n1 c1 sh) (r2 : Src W s2 n2 c2 dt) (h1 : n1 ≤ 20000) (h2 : n2 ≤ 20000) (u1 u2 : Value) (hq : Box W q false u1 u2) (hend : ∀ a g1 g2 d1 d2 wx, LwS W p q c s1 s2 n1 n2 c1 c2 sh dt 2 2 g1 g2 d1 d2 a wx → Q .normal (a.put (some 13) (.agg #[.bool c, .slice (some ⟨g1, 0, none⟩) n1 d1, .slice (some ⟨g2, 0, none⟩) n2 d2])) (((wx.setCell ⟨q, 0, none⟩ (.bool c)).setCell ⟨q, 1, none⟩ (.slice (some ⟨g1, 0, none⟩) n1 d1)).setCell ⟨q, 2, none⟩ (.slice (some ⟨g2, 0, none⟩) n2 d2))) (a : Act) (gA gB dA dB : Nat) (wx : World) (h : LwS W p q c s1 s2 n1 n2 c1 c2 sh dt 0 1 gA gB dA dB a wx) : wpAnyL Tryz.prog .any opsLw Q (fun wx => Below W.heap.size W wx) 11 5 #[true, true, false, true, true, false, true, true, true, false, false, false] a wx := by
  obtain ⟨i0, hi, hz0, hz1, hz2⟩ := info_parts info_int
  refine wpAnyL_one (i := 2) (by kernel_rfl) ?_
  ·
    have hL : (#[true, true, false, true, true, false, true, true, true, false, false, false] : Array Bool).setIfInBounds 2 true = #[true, true, true, true, true, false, true, true, true, false, false, false] := by kernel_rfl
    refine op_wp (o := oLw_2) rfl (wanted_free rfl) ?_
    unfold Oper.wp
    rw [rgS0 (o := oLw_2) rfl wx]
    refine ⟨fun _ => h.buildA.low, ?_⟩
    rw [hL]
    exact lw_11 W p q c s1 s2 n1 n2 c1 c2 sh dt r1 r2 h1 h2 u1 u2 hq hend _ _ _ _ _ _ h.buildA

theorem lw_00 (r1 : Src W s1 n1 c1 sh) (r2 : Src W s2 n2 c2 dt) (h1 : n1 ≤ 20000) (h2 : n2 ≤ 20000) (u1 u2 : Value) (hq : Box W q false u1 u2) (hend : ∀ a g1 g2 d1 d2 wx, LwS W p q c s1 s2 n1 n2 c1 c2 sh dt 2 2 g1 g2 d1 d2 a wx → Q .normal (a.put (some 13) (.agg #[.bool c, .slice (some ⟨g1, 0, none⟩) n1 d1, .slice (some ⟨g2, 0, none⟩) n2 d2])) (((wx.setCell ⟨q, 0, none⟩ (.bool c)).setCell ⟨q, 1, none⟩ (.slice (some ⟨g1, 0, none⟩) n1 d1)).setCell ⟨q, 2, none⟩ (.slice (some ⟨g2, 0, none⟩) n2 d2))) (a : Act) (gA gB dA dB : Nat) (wx : World) (h : LwS W p q c s1 s2 n1 n2 c1 c2 sh dt 0 0 gA gB dA dB a wx) : wpAnyL Tryz.prog .any opsLw Q (fun wx => Below W.heap.size W wx) 11 6 #[true, true, false, true, true, false, false, true, true, false, false, false] a wx := by
  obtain ⟨i0, hi, hz0, hz1, hz2⟩ := info_parts info_int
  refine wpAnyL_two (i := 2) (j := 6) (by kernel_rfl) ?_ ?_
  ·
    have hL : (#[true, true, false, true, true, false, false, true, true, false, false, false] : Array Bool).setIfInBounds 2 true = #[true, true, true, true, true, false, false, true, true, false, false, false] := by kernel_rfl
    refine op_wp (o := oLw_2) rfl (wanted_free rfl) ?_
    unfold Oper.wp
    rw [rgS0 (o := oLw_2) rfl wx]
    refine ⟨fun _ => h.buildA.low, ?_⟩
    rw [hL]
    exact lw_10 W p q c s1 s2 n1 n2 c1 c2 sh dt r1 r2 h1 h2 u1 u2 hq hend _ _ _ _ _ _ h.buildA
  ·
    have hL : (#[true, true, false, true, true, false, false, true, true, false, false, false] : Array Bool).setIfInBounds 6 true = #[true, true, false, true, true, false, true, true, true, false, false, false] := by kernel_rfl
    refine op_wp (o := oLw_6) rfl (wanted_free rfl) ?_
    unfold Oper.wp
    rw [rgS0 (o := oLw_6) rfl wx]
    refine ⟨fun _ => h.buildB.low, ?_⟩
    rw [hL]
    exact lw_01 W p q c s1 s2 n1 n2 c1 c2 sh dt r1 r2 h1 h2 u1 u2 hq hend _ _ _ _ _ _ h.buildB

theorem regionLw (r1 : Src W s1 n1 c1 sh) (r2 : Src W s2 n2 c2 dt) (h1 : n1 ≤ 20000) (h2 : n2 ≤ 20000) (u1 u2 : Value) (hq : Box W q false u1 u2) (hend : ∀ a g1 g2 d1 d2 wx, LwS W p q c s1 s2 n1 n2 c1 c2 sh dt 2 2 g1 g2 d1 d2 a wx → Q .normal (a.put (some 13) (.agg #[.bool c, .slice (some ⟨g1, 0, none⟩) n1 d1, .slice (some ⟨g2, 0, none⟩) n2 d2])) (((wx.setCell ⟨q, 0, none⟩ (.bool c)).setCell ⟨q, 1, none⟩ (.slice (some ⟨g1, 0, none⟩) n1 d1)).setCell ⟨q, 2, none⟩ (.slice (some ⟨g2, 0, none⟩) n2 d2))) (a : Act) (hsz : 14 ≤ a.tmps.size) (hdf : a.defers = []) (h1p : a.eval (.tmp 1) = .pointer (some ⟨p, 0, none⟩)) (h2q : a.eval (.tmp 2) = .pointer (some ⟨q, 0, none⟩)) (hp : Box W p c (.slice s1 n1 c1) (.slice s2 n2 c2)) (hQ : ∀ c a (d : Nat) v w, Q (.panic c) (a.put (some d) v) w → Q (.panic c) a w) :
    (Code.region 1 opsLw true).wp Tryz.prog Q a W := by
  have hb0 : Below W.heap.size W W.drew := (Below.refl _ _).drew
  have hS0 : (fun wx => Below W.heap.size W wx) W.drew := hb0
  have hS : ∀ w, Below W.heap.size W w → _ := fun w hw => (hp.below (Nat.le_refl _) hw).cells
  refine wp_region_L (fun wx => Below W.heap.size W wx) 11 (by kernel_rfl) ?_
  show wpAnyL _ _ _ _ _ _ (11 + 1) _ _ W.drew
  refine wpAnyL_put 0 3 (.pointer (some ⟨p, 0, none⟩)) (oi := oLw_0) rfl rfl (by kernel_rfl) (by kernel_rfl) (by kernel_rfl) (by kernel_rfl) hQ (wanted_free rfl) (fun w hw => rgF0 (.tmp 1) p rfl h1p w) hS0 ?_
  refine wpAnyL_put 1 4 (.bool c) (oi := oLw_1) rfl rfl (by kernel_rfl) (by kernel_rfl) (by kernel_rfl) (by kernel_rfl) hQ (wanted_free rfl) (fun w hw => rgBool (.tmp 3) _ rfl (eval_eq (by omega)) w (hS w hw).1) hS0 ?_
  refine wpAnyL_put 3 6 (.pointer (some ⟨p, 1, none⟩)) (oi := oLw_3) rfl rfl (by kernel_rfl) (by kernel_rfl) (by kernel_rfl) (by kernel_rfl) hQ (wanted_free rfl) (fun w hw => rgF1 (.tmp 1) p rfl (by rw [eval_ne (by decide), eval_ne (by decide)]; exact h1p) w) hS0 ?_
  refine wpAnyL_put 4 7 (.slice s1 n1 c1) (oi := oLw_4) rfl rfl (by kernel_rfl) (by kernel_rfl) (by kernel_rfl) (by kernel_rfl) hQ (wanted_free rfl) (fun w hw => rgL (.tmp 6) _ rfl (eval_eq (by rw [put_size, put_size]; omega)) w (hS w hw).2.1) hS0 ?_
  refine wpAnyL_put 7 10 (.pointer (some ⟨p, 2, none⟩)) (oi := oLw_7) rfl rfl (by kernel_rfl) (by kernel_rfl) (by kernel_rfl) (by kernel_rfl) hQ (wanted_free rfl) (fun w hw => rgF2 (.tmp 1) p rfl (by rw [eval_ne (by decide), eval_ne (by decide), eval_ne (by decide), eval_ne (by decide)]; exact h1p) w) hS0 ?_
  refine wpAnyL_put 8 11 (.slice s2 n2 c2) (oi := oLw_8) rfl rfl (by kernel_rfl) (by kernel_rfl) (by kernel_rfl) (by kernel_rfl) hQ (wanted_free rfl) (fun w hw => rgL (.tmp 10) _ rfl (eval_eq (by rw [put_size, put_size, put_size, put_size]; omega)) w (hS w hw).2.2) hS0 ?_
  have hL : ((((((Array.replicate opsLw.size false).setIfInBounds 0 true).setIfInBounds 1 true).setIfInBounds 3 true).setIfInBounds 4 true).setIfInBounds 7 true).setIfInBounds 8 true = #[true, true, false, true, true, false, false, true, true, false, false, false] := by kernel_rfl
  rw [hL]
  refine lw_00 W p q c s1 s2 n1 n2 c1 c2 sh dt r1 r2 h1 h2 u1 u2 hq hend _ 0 0 0 0 _ ⟨hb0, by rw [put_size, put_size, put_size, put_size, put_size, put_size]; exact hsz, by rw [put_defers, put_defers, put_defers, put_defers, put_defers, put_defers]; exact hdf, (by rw [eval_ne (by decide), eval_ne (by decide), eval_ne (by decide), eval_ne (by decide), eval_ne (by decide), eval_ne (by decide)]; exact h2q), (by rw [eval_ne (by decide), eval_ne (by decide), eval_ne (by decide), eval_ne (by decide)]; exact eval_eq (by rw [put_size]; omega)), (by rw [eval_ne (by decide), eval_ne (by decide)]; exact eval_eq (by rw [put_size, put_size, put_size]; omega)), (eval_eq (by rw [put_size, put_size, put_size, put_size, put_size]; omega)), fun e => by omega, fun e => by omega, fun e => by omega, fun e => by omega, fun e => absurd rfl e, fun e => absurd rfl e, fun e => absurd rfl e⟩
end

end Go.Proofs.YtgjpchnkodnieaaGreatDoor
namespace Go.Proofs.YtgjpchnkodnieaaGreatDoor
open Go.RowKit

set_option maxHeartbeats 2000000 in
theorem lwArray_src (c : Bool) (s1 s2 : Option Addr) (n1 n2 c1 c2 : Nat) (sh dt : List Int) (w : World) (r1 : Src w s1 n1 c1 sh) (r2 : Src w s2 n2 c2 dt) (h1 : n1 ≤ 20000) (h2 : n2 ≤ 20000) :
    Calls Tryz.prog 12 #[.agg #[.bool c, .slice s1 n1 c1, .slice s2 n2 c2]] w fun e w' => ∃ g1 g2 d1 d2, e = .returned (.agg #[.bool c, .slice (some ⟨g1, 0, none⟩) n1 d1, .slice (some ⟨g2, 0, none⟩) n2 d2]) ∧ Own w' w.heap.size (some ⟨g1, 0, none⟩) n1 sh ∧ Own w' w.heap.size (some ⟨g2, 0, none⟩) n2 dt ∧ n1 ≤ d1 ∧ n2 ≤ d2 ∧ Below w.heap.size w w' := by
  obtain ⟨W0, hW0⟩ : ∃ W0, W0 = (w.alloc (.cells #[.bool c, .slice s1 n1 c1, .slice s2 n2 c2] 25)).alloc (.cells #[.bool false, .slice none 0 0, .slice none 0 0] 25) := ⟨_, rfl⟩
  have hz0 : W0.heap.size = w.heap.size + 1 + 1 := by rw [hW0]; simp
  have HB0 : Hid (Below w.heap.size w W0) := by rw [hW0]; exact ((Below.refl _ w).alloc (Nat.le_refl _) _).alloc (by simp) _
  have HX0 : Hid (Box W0 w.heap.size c (.slice s1 n1 c1) (.slice s2 n2 c2)) := by
    rw [hW0]; exact (Box.new w _ _ _).below (Nat.le_refl _) ((Below.refl _ _).alloc (Nat.le_refl _) _)
  have HX1 : Hid (Box W0 (w.heap.size + 1) false (.slice none 0 0) (.slice none 0 0)) := by
    rw [hW0]
    have := Box.new (w.alloc (.cells #[.bool c, .slice s1 n1 c1, .slice s2 n2 c2] 25)) false (.slice none 0 0) (.slice none 0 0)
    rw [World.size_alloc] at this
    exact this
  have HW0 := hide hW0
  have R1 := hide (r1.below (Nat.le_refl _) (unhide HB0))
  have R2 := hide (r2.below (Nat.le_refl _) (unhide HB0))
  have HZ0 := hide hz0
  clear hW0 hz0 r1 r2
  go_enter Tryz.func12, Tryz.ntmps12
  go_upto_region 1 with fail
  rw [← unhide HW0]
  refine regionLw W0 w.heap.size (w.heap.size + 1) c s1 s2 n1 n2 c1 c2 sh dt (unhide R1) (unhide R2) h1 h2 _ _ (unhide HX1) ?_ _ (by simp) rfl rfl rfl (unhide HX0) ?_
  · intro a g1 g2 d1 d2 wx hlw
    apply_assumption
    have hv2 : (a.put (some 13) (.agg #[.bool c, .slice (some ⟨g1, 0, none⟩) n1 d1, .slice (some ⟨g2, 0, none⟩) n2 d2])).eval (.tmp 2) = .pointer (some ⟨w.heap.size + 1, 0, none⟩) := by rw [eval_ne (by decide)]; exact hlw.e2
    obtain ⟨a', ha'⟩ : ∃ a', a' = a.put (some 13) (.agg #[.bool c, .slice (some ⟨g1, 0, none⟩) n1 d1, .slice (some ⟨g2, 0, none⟩) n2 d2]) := ⟨_, rfl⟩
    have hdf : a'.defers = [] := by rw [ha', put_defers]; exact hlw.df
    rw [← ha'] at hv2 ⊢
    have hv3 : a'.tmps[2]?.getD undef = .pointer (some ⟨w.heap.size + 1, 0, none⟩) := by simpa [Act.eval] using hv2
    clear ha'
    have hb := ((unhide HX1).below (Nat.le_refl _) hlw.low).sets (c' := c) (u1 := .slice (some ⟨g1, 0, none⟩) n1 d1) (u2 := .slice (some ⟨g2, 0, none⟩) n2 d2)
    obtain ⟨r0, r1, r2, _, _, _⟩ := hb.all
    have hbx := (unhide HX1).below (Nat.le_refl _) hlw.low
    have hz0 := unhide HZ0
    have o1 := (hlw.a2 rfl).2
    have o2 := (hlw.b2 rfl).2
    have hk1 : n1 ≤ d1 := by
      rcases o1.2 with ⟨e, _⟩ | ⟨g', cap', cur, e, _, _, hr, _⟩
      · cases e
      · cases e; exact hr
    have hk2 : n2 ≤ d2 := by
      rcases o2.2 with ⟨e, _⟩ | ⟨g', cap', cur, e, _, _, hr, _⟩
      · cases e
      · cases e; exact hr
    obtain ⟨_, _, e1, q1⟩ := Own.of_owns o1 (by omega)
    obtain ⟨_, _, e2, q2⟩ := Own.of_owns o2 (by omega)
    cases e1
    cases e2
    have hn1 : ∀ k, At (some ⟨g1, 0, none⟩) n1 k → k ≠ w.heap.size + 1 := fun k hk => q1.row.notBox hbx hk
    have hn2 : ∀ k, At (some ⟨g2, 0, none⟩) n2 k → k ≠ w.heap.size + 1 := fun k hk => q2.row.notBox hbx hk
    have hlow := (unhide HB0).trans (hlw.low.mono (by omega))
    go_wp2_with fail
    refine bodyPost_ret (v := .agg #[.bool c, .slice (some ⟨g1, 0, none⟩) n1 d1, .slice (some ⟨g2, 0, none⟩) n2 d2]) (by simp [results, Tryz.results12, go_sem, hv3, r0, r1, r2]) hdf ?_
    exact ⟨g1, g2, d1, d2, rfl, (((q1.mono (by omega)).other (q := ⟨w.heap.size + 1, 0, none⟩) hn1 _).other (q := ⟨w.heap.size + 1, 1, none⟩) hn1 _).other (q := ⟨w.heap.size + 1, 2, none⟩) hn1 _, (((q2.mono (by omega)).other (q := ⟨w.heap.size + 1, 0, none⟩) hn2 _).other (q := ⟨w.heap.size + 1, 1, none⟩) hn2 _).other (q := ⟨w.heap.size + 1, 2, none⟩) hn2 _, hk1, hk2, ((hlow.setCell (p := ⟨w.heap.size + 1, 0, none⟩) (by simp) _).setCell (p := ⟨w.heap.size + 1, 1, none⟩) (by simp) _).setCell (p := ⟨w.heap.size + 1, 2, none⟩) (by simp) _⟩
  · exact fun _ _ _ _ _ h => h

end Go.Proofs.YtgjpchnkodnieaaGreatDoor
namespace Go.Proofs.YtgjpchnkodnieaaGreatDoor
open Go.RowKit

/-- The two sentinels lie as their initialisers lay them: errNoResult points to a, errTooGreat to b. -/
structure Gl (w : World) (a b : Addr) : Prop where
  no : w.cell? ⟨2, 0, none⟩ = some (.iface 278 (.pointer (some a)))
  big : w.cell? ⟨1, 0, none⟩ = some (.iface 278 (.pointer (some b)))
  ne : a ≠ b
  rowA : ∃ ca ta, w.heap[a.block]? = some (.cells ca ta (0, 0))
  rowB : ∃ cb tb, w.heap[b.block]? = some (.cells cb tb (0, 0))

theorem Gl.below {w w' : World} {a b : Addr} (h : Gl w a b) (hb : Below w.heap.size w w') : Gl w' a b := by
  obtain ⟨h1, h2, h3, ⟨ca, ta, h4⟩, ⟨cb, tb, h5⟩⟩ := h
  exact ⟨(hb.cell (p := ⟨2, 0, none⟩) (World.block_lt_of_cell? _ _ h1)).trans h1, (hb.cell (p := ⟨1, 0, none⟩) (World.block_lt_of_cell? _ _ h2)).trans h2, h3,
    ⟨ca, ta, (hb.block _ (lt_of_block h4)).trans h4⟩, ⟨cb, tb, (hb.block _ (lt_of_block h5)).trans h5⟩⟩

theorem Gl.alloc {w : World} {a b : Addr} (h : Gl w a b) (o : Obj) : Gl (w.alloc o) a b := h.below ((Below.refl _ _).alloc (Nat.le_refl _) _)
theorem Gl.drewN {w : World} {a b : Addr} (h : Gl w a b) (q : Nat) : Gl (w.drewN q) a b := h.below (Below.drewN (Below.refl _ _) _)

/-- What an axis of no elements gives for the ops 1 to 16. -/
def emptyTab : List Int := [0, 0, 1, 1, 1000000000000000, -1000000000000000, 0, 1, 1, 0, 0, 1, 1, 0, 1, 0]

/-- The sentinels and the table emptyFolds lie as laid. -/
structure GlF (w : World) (a b : Addr) : Prop where
  gl : Gl w a b
  tab : ∀ i, i < 16 → w.cell? ⟨0, i, none⟩ = some (.int .i64 (emptyTab.getD i 0))

theorem GlF.below {w w' : World} {a b : Addr} (h : GlF w a b) (hb : Below w.heap.size w w') : GlF w' a b :=
  ⟨h.gl.below hb, fun i hi => (hb.cell (p := ⟨0, i, none⟩) (World.block_lt_of_cell? _ _ (h.tab i hi))).trans (h.tab i hi)⟩
theorem GlF.alloc {w : World} {a b : Addr} (h : GlF w a b) (o : Obj) : GlF (w.alloc o) a b := h.below ((Below.refl _ _).alloc (Nat.le_refl _) _)

/-- What an element's function gives for a code: nil, errTooGreat or errNoResult. -/
def errV (a b : Addr) (code : Int) : Value := if code = 0 then .nilIface else if code = 7 then .iface 278 (.pointer (some b)) else .iface 278 (.pointer (some a))

theorem errV_0 (a b : Addr) : errV a b 0 = .nilIface := rfl
theorem errV_7 (a b : Addr) : errV a b 7 = .iface 278 (.pointer (some b)) := rfl
theorem errV_3 (a b : Addr) : errV a b 3 = .iface 278 (.pointer (some a)) := rfl

/-- The codes that elements can have. -/
def codeIn (code : Int) : Prop := code = 0 ∨ code = 3 ∨ code = 7

end Go.Proofs.YtgjpchnkodnieaaGreatDoor
namespace Go.Proofs.YtgjpchnkodnieaaGreatDoor
open Go.RowKit

set_option maxHeartbeats 1000000 in
theorem l5Index_any (a1 : Option Addr) (n c1 : Nat) (sh : List Int) (p : Int) (w : World) (h1 : Row w a1 n sh) (hn : n ≤ 10000) (hs : ∀ k, sh.getD k 0 ≤ 10000) (hf : Full sh) (hp : 0 ≤ p) (hp2 : p ≤ 10000) :
    Calls Tryz.prog 55 #[.slice a1 n c1, .int .i64 p] w fun e w' => e = .returned (.slice (some ⟨w.heap.size, 0, none⟩) n n) ∧ Blk w' w.heap.size (digits sh p) ∧ Below w.heap.size w w' := by
  have hl := hide h1.len
  have H1 := hide h1
  have HS := hide hs
  have HF := hide hf
  have hdl : (digits sh p).length = n := by rw [digits_len]; exact h1.len
  clear h1 hs hf
  obtain ⟨i0, hi, hz0, hz1, hz2⟩ := info_parts info_int
  go_enter Tryz.func55, Tryz.ntmps55
  go_wp2_with (at_make; refine wpList_make_full _ rfl _ _ 23 rfl w.heap.size 3 i0 (.int .i64 0) 1 Tryz.underlying23 hi hz0 hz1 _ _ _ _ n rfl rfl rfl rfl (by rw [hz2]; omega) (by unfold maxLen; omega) (Nat.le_refl _) ?_; intro w1 hown hgrow)
  have hblk : Blk w1 w.heap.size (List.replicate n 0 ++ (digits sh p).drop n) := Blk.of_owns (n := n) (base := w.heap.size) (by simpa [toList_madeCells_one, Value.cells, List.drop_of_length_le (Nat.le_of_eq hdl)] using hown)
  have hbel : Below w.heap.size w w1 := (Below.refl _ _).grown hgrow (Nat.le_refl _) (by simp)
  clear hown hgrow hi hz0 hz1 hz2
  have HBK := hide hblk
  have HBL := hide hbel
  have HDL := hide hdl
  clear hblk hbel hdl
  go_wp2
  go_loopw [1, 6] (fun q i wr => ∃ m : Nat, m ≤ n ∧ i = .int .i64 ((m : Int) - 1) ∧ q = .int .i64 (restN sh p (n - m)) ∧ Hid (Blk wr w.heap.size (List.replicate m 0 ++ (digits sh p).drop m)) ∧ Hid (Below w.heap.size w wr)) (fun _ i _ => (intOf i + 1).toNat)
  case atStart => exact ⟨n, Nat.le_refl _, by go_num, by simp [restN], HBK, HBL⟩
  case round =>
    obtain ⟨m, hm, rfl, rfl, hb, hbl⟩ := hrel
    clear HBK HBL w1
    rcases Nat.eq_zero_or_pos m with h0 | h0
    · subst h0
      go_wp2
      go_ret
      exact ⟨rfl, by simpa using unhide hb, unhide hbl⟩
    · obtain ⟨k, hk⟩ : ∃ k, m = k + 1 := ⟨m - 1, by omega⟩
      subst hk
      have hlt : k < n := by omega
      obtain ⟨b, off, rfl, hblt, hc⟩ := (unhide H1).get hlt
      have hcx := ((unhide hbl).cell (p := ⟨b, off + k, none⟩) hblt).trans hc
      have hsc := unhide HS k
      have hsp := unhide HF k (by rw [unhide hl]; exact hlt)
      have hr := restN_nn (unhide HF) hp (n - (k + 1)) (by rw [unhide hl]; omega)
      have e1 : sh.length - 1 - (n - (k + 1)) = k := by have := unhide hl; omega
      have HR : Hid (restN sh p (n - k) = restN sh p (n - (k + 1)) / sh.getD k 0) := by
        show _ = _
        have e : n - k = n - (k + 1) + 1 := by omega
        rw [e]
        show restN sh p (n - (k + 1)) / sh.getD (sh.length - 1 - (n - (k + 1))) 0 = _
        rw [e1]
      have HD : Hid ((digits sh p).getD k 0 = restN sh p (n - (k + 1)) % sh.getD k 0) := by
        show _ = _
        rw [digits_get sh p k (by rw [unhide hl]; exact hlt)]
        unfold digit
        have e3 : sh.length - 1 - k = n - (k + 1) := by have := unhide hl; omega
        rw [e3]
      obtain ⟨s, hse⟩ : ∃ s, s = sh.getD k 0 := ⟨_, rfl⟩
      obtain ⟨r, hre⟩ : ∃ r, r = restN sh p (n - (k + 1)) := ⟨_, rfl⟩
      rw [← hse] at hcx hsc hsp HR HD
      rw [← hre] at hr HR HD ⊢
      have hbc := (unhide hb).cell (i := k) (by simp; omega)
      have hbf := (unhide hb).free k
      clear hse hre hc e1
      go_wp2
      go_roundw
      case rel => exact ⟨k, by omega, by go_num, by rw [unhide HR], by rw [← drop_set (by rw [unhide HDL]; exact hlt), unhide HD]; exact (unhide hb).set k _, (unhide hbl).setCell (Nat.le_refl _) _⟩
      case measure => simp [intOf]

end Go.Proofs.YtgjpchnkodnieaaGreatDoor
namespace Go.Proofs.YtgjpchnkodnieaaGreatDoor
open Go.RowKit

set_option maxHeartbeats 1000000 in
theorem l5At_any (a1 a2 : Option Addr) (n c1 c2 m : Nat) (sh ix : List Int) (w : World) (h1 : Row w a1 n sh) (h2 : Row w a2 m ix) (hm : n ≤ m) (hs : ShapeIn sh) (hi : IxIn sh ix) :
    Calls Tryz.prog 56 #[.slice a1 n c1, .slice a2 m c2] w fun e w' => e = .returned (.int .i64 (place sh ix)) ∧ Below w.heap.size w w' := by
  have hl := hide h1.len
  have hsm := h1.small
  have hsm2 := h2.small
  have H1 := hide h1
  have H2 := hide h2
  have HS := hide hs
  have HI := hide hi
  clear h1 h2 hs hi
  go_enter Tryz.func56, Tryz.ntmps56
  go_wp2
  go_loopw [5, 6] (fun p i wr => ∃ k : Nat, k ≤ n ∧ i = .int .i64 k ∧ p = .int .i64 (placeN sh ix k) ∧ Hid (Below w.heap.size w wr)) (fun _ i _ => n - (intOf i).toNat)
  case atStart => exact ⟨0, Nat.zero_le _, rfl, rfl, Below.refl _ _⟩
  case round =>
    obtain ⟨k, hk, rfl, rfl, hb⟩ := hrel
    by_cases hlt : k < n
    · obtain ⟨b, off, rfl, hblt, hc⟩ := (unhide H1).get hlt
      obtain ⟨b', off', rfl, hblt', hc'⟩ := (unhide H2).get (by omega : k < m)
      have hcx := ((unhide hb).cell (p := ⟨b, off + k, none⟩) hblt).trans hc
      have hcy := ((unhide hb).cell (p := ⟨b', off' + k, none⟩) hblt').trans hc'
      have hlm : k < m := by omega
      have hsc := (unhide HS).cell k
      have hic := unhide HI k (by rw [unhide hl]; exact hlt)
      have hpn := placeN_bd (unhide HI) k (by rw [unhide hl]; omega)
      have hpb := ((unhide HS).take k).bd
      obtain ⟨P, hP⟩ : ∃ P, P = placeN sh ix k := ⟨_, rfl⟩
      obtain ⟨s, hse⟩ : ∃ s, s = sh.getD k 0 := ⟨_, rfl⟩
      obtain ⟨i, hie⟩ : ∃ i, i = ix.getD k 0 := ⟨_, rfl⟩
      rw [← hP] at hpn ⊢
      rw [← hse] at hsc hic hcx
      rw [← hie] at hic hcy
      have hq0 : 0 ≤ P * s := Int.mul_nonneg hpn.1 hsc.1
      have hq1 : P * s ≤ 10000 * 10000 := Int.mul_le_mul (by omega) hsc.2 hsc.1 (by omega)
      have HN : Hid (placeN sh ix (k + 1) = P * s + i) := by rw [hP, hse, hie]; rfl
      obtain ⟨z, hz⟩ : ∃ z, z = P * s := ⟨_, rfl⟩
      rw [← hz] at hq0 hq1
      have HZ := hide hz
      have hw1 : IntKind.i64.wrap (P * s) = z := by rw [IntKind.wrap_i64, ← hz]; omega
      have hw2 : IntKind.i64.wrap (z + i) = z + i := by rw [IntKind.wrap_i64]; omega
      clear hP hse hie hz hpn hpb hc hc'
      go_wp2_with fail
      go_quiet (fail)
      go_wp2_with fail
      go_roundw
      case rel => exact ⟨k + 1, by omega, by go_num, by rw [unhide HN, ← unhide HZ], Below.drewN (unhide hb) nq⟩
      case measure => simp [intOf]; omega
    · have hkn : k = n := by omega
      subst hkn
      go_wp2
      go_ret
      refine ⟨ret_int ?_, unhide hb⟩
      unfold place
      rw [unhide hl]

end Go.Proofs.YtgjpchnkodnieaaGreatDoor
namespace Go.Proofs.YtgjpchnkodnieaaGreatDoor
open Go.RowKit

set_option maxHeartbeats 400000 in
theorem l5List_any (c : Bool) (a1 : Option Addr) (n1 c1 : Nat) (v2 : Value) (w : World) (hs : n1 ≤ 17592186044416) (r : Int) (hr : Hid (listCode c n1 = r)) :
    Calls Tryz.prog 54 #[.agg #[.bool c, .slice a1 n1 c1, v2]] w fun e w' => e = .returned (.int .i64 r) ∧ Below w.heap.size w w' := by
  rw [← hr.out]
  have hW : ∀ o, Below w.heap.size w (w.alloc o) := fun o => (Below.refl _ _).alloc (Nat.le_refl _) _
  by_cases h : 1 < n1
  · have HE : Hid (listCode c n1 = 4) := by show _ = _; unfold listCode; rw [if_pos h]
    go_enter Tryz.func54, Tryz.ntmps54
    go_wp2
    go_ret
    exact ⟨ret_int HE.out.symm, hW _⟩
  · cases c
    · have HE : Hid (listCode false n1 = 0) := by show _ = _; unfold listCode; rw [if_neg h]; rfl
      go_enter Tryz.func54, Tryz.ntmps54
      go_wp2
      go_ret
      exact ⟨ret_int HE.out.symm, hW _⟩
    · have HE : Hid (listCode true n1 = 3) := by show _ = _; unfold listCode; rw [if_neg h]; rfl
      go_enter Tryz.func54, Tryz.ntmps54
      go_wp2
      go_ret
      exact ⟨ret_int HE.out.symm, hW _⟩

end Go.Proofs.YtgjpchnkodnieaaGreatDoor
namespace Go.Proofs.YtgjpchnkodnieaaGreatDoor
open Go.RowKit

set_option maxHeartbeats 400000 in
theorem l3Fill_any (c : Bool) (w : World) : Calls Tryz.prog 74 #[.bool c] w fun e w' => e = .returned (.int .i64 (fillOf c)) ∧ w' = w := by
  cases c
  all_goals
    go_enter Tryz.func74, Tryz.ntmps74
    go_wp2
    go_ret
    exact ⟨rfl, rfl⟩

end Go.Proofs.YtgjpchnkodnieaaGreatDoor
namespace Go.Proofs.YtgjpchnkodnieaaGreatDoor
open Go.RowKit

/-- k elements have been gathered into the array in box p. -/
structure Stg (B : World) (p : Nat) (c : Bool) (v1 : Value) (f : Nat → Int × Int) (k : Nat) (wr : World) (g cap : Nat) : Prop where
  box : Box wr p c v1 (.slice (some ⟨g, 0, none⟩) k cap)
  owns : wr.ownsRow B.heap.size 3 1 (.slice (some ⟨g, 0, none⟩) k cap) k ((vals f k).map (Value.int .i64))
  low : Below B.heap.size B wr
  place : B.heap.size ≤ p

theorem Stg.start {B wx : World} {p g : Nat} {c : Bool} {v1 : Value} (f : Nat → Int × Int) (h1 : Box wx p c v1 (.slice (some ⟨g, 0, none⟩) 0 0)) (h2 : Blk wx g []) (h4 : Below B.heap.size B wx) (h7 : B.heap.size ≤ p) (h5 : B.heap.size ≤ g) : Stg B p c v1 f 0 wx g 0 :=
  ⟨h1, h2.owns h5, h4, h7⟩

theorem Stg.below {B wr w5 : World} {p g cap k : Nat} {c : Bool} {v1 : Value} {f : Nat → Int × Int} (h : Stg B p c v1 f k wr g cap) (hb : Below wr.heap.size wr w5) : Stg B p c v1 f k w5 g cap :=
  ⟨h.box.below (Nat.le_refl _) hb, owns_below h.owns (Nat.le_refl _) hb, h.low.trans (hb.mono h.low.size), h.place⟩

theorem Stg.push {B w5 w6 : World} {p g g' cap cap' k : Nat} {c : Bool} {v1 : Value} {f : Nat → Int × Int} {r1 : Int} (o : Obj) (h : Stg B p c v1 f k w5 g cap) (hf : (f k).1 = r1)
    (hown : w6.ownsRow B.heap.size 3 1 (.slice (some ⟨g', 0, none⟩) (k + 1) cap') (k + 1) ((vals f k).map (Value.int .i64) ++ [.int .i64 r1])) (hg : (w5.alloc o).grownBy w6 (Value.ownBlock (.slice (some ⟨g, 0, none⟩) k cap))) :
    Box w6 p c v1 (.slice (some ⟨g, 0, none⟩) k cap) ∧ Stg B p c v1 f (k + 1) (w6.setCell ⟨p, 2, none⟩ (.slice (some ⟨g', 0, none⟩) (k + 1) cap')) g' cap' := by
  have hb6 := h.box.grown h.owns o hg
  have hlow := h.low.trans (below_append o h.owns h.low.size hg)
  refine ⟨hb6, hb6.set2 _, ?_, hlow.setCell h.place _, h.place⟩
  rw [vals_snoc, hf]
  exact owns_box_set hown hb6 _ _

theorem four_boxes (w : World) (c : Bool) (v1 v2 z : Value) :
    let W := (((w.alloc (.cells #[.bool c, v1, v2] 25)).alloc (.cells #[.bool false, .slice none 0 0, .slice none 0 0] 25)).alloc (.cells #[] 3)).alloc (.cells #[.bool c, z, .slice (some ⟨w.heap.size + 1 + 1, 0, none⟩) 0 0] 25)
    Box W w.heap.size c v1 v2 ∧ Box W (w.heap.size + 1) false (.slice none 0 0) (.slice none 0 0) ∧ Blk W (w.heap.size + 1 + 1) [] ∧ Box W (w.heap.size + 1 + 1 + 1) c z (.slice (some ⟨w.heap.size + 1 + 1, 0, none⟩) 0 0) ∧ Below w.heap.size w W := by
  refine ⟨(((Box.new w c v1 v2).alloc _).alloc _).alloc _, ?_, ?_, ?_, ((((Below.refl _ _).alloc (Nat.le_refl _) _).alloc (by simp) _).alloc (by simp <;> omega) _).alloc (by simp <;> omega) _⟩
  · have := ((Box.new (w.alloc (.cells #[.bool c, v1, v2] 25)) false (.slice none 0 0) (.slice none 0 0)).alloc (.cells #[] 3)).alloc (.cells #[.bool c, z, .slice (some ⟨w.heap.size + 1 + 1, 0, none⟩) 0 0] 25)
    simpa using this
  · have := (Blk.new ((w.alloc (.cells #[.bool c, v1, v2] 25)).alloc (.cells #[.bool false, .slice none 0 0, .slice none 0 0] 25))).alloc (.cells #[.bool c, z, .slice (some ⟨w.heap.size + 1 + 1, 0, none⟩) 0 0] 25)
    simpa using this
  · have := Box.new (((w.alloc (.cells #[.bool c, v1, v2] 25)).alloc (.cells #[.bool false, .slice none 0 0, .slice none 0 0] 25)).alloc (.cells #[] 3)) c z (.slice (some ⟨w.heap.size + 1 + 1, 0, none⟩) 0 0)
    simpa using this

theorem Blk.drewN {w : World} {g : Nat} {zs : List Int} (h : Blk w g zs) (n : Nat) : Blk (w.drewN n) g zs := h

set_option maxRecDepth 20000 in
set_option maxHeartbeats 8000000 in
theorem l5Window_any (c : Bool) (a1 a2 s1 z1 : Option Addr) (n n2 m c1 c2 sc zc : Nat) (sh dt st zs : List Int) (w : World) (h1 : Row w a1 n sh) (h2 : Row w a2 n2 dt) (h3 : Row w s1 m st) (h4 : Row w z1 n zs) (hm : n ≤ m) (hok : arrOk c sh dt = true) (hz : shapeB zs = true) (hst : ∀ k, k < n → -1000000000000000 ≤ st.getD k 0 ∧ st.getD k 0 ≤ 1000000000000000) (N : Nat) (hN : countOf zs = (N : Int)) :
    Calls Tryz.prog 199 #[.agg #[.bool c, .slice a1 n c1, .slice a2 n2 c2], .slice s1 m sc, .slice z1 n zc] w fun e w' => ∃ g k, e = .returned (.agg #[.bool c, .slice z1 n zc, .slice (some ⟨g, 0, none⟩) N k]) ∧ Row w' (some ⟨g, 0, none⟩) N (vals (windowAt c sh dt st zs) N) ∧ Below w.heap.size w w' := by
  have hl1 := hide h1.len
  have hl2 := hide h2.len
  have hl4 := hide h4.len
  have hs1 := h1.small
  have hs2 := h2.small
  have hs3 := h3.small
  have H1 := hide h1
  have H2 := hide h2
  have H3 := hide h3
  have H4 := hide h4
  have HOK := hide hok
  have HZ := hide hz
  have HST := hide hst
  have HN := hide hN
  have hn5 : n ≤ 5 := by rw [← h1.len]; exact (shapeIn_of hok).2.2
  have hN4 : N ≤ 10000 := by have := (shapeB_count hz).2; omega
  obtain ⟨f, hf⟩ : ∃ f, f = windowAt c sh dt st zs := ⟨_, rfl⟩
  have HF := hide hf
  rw [← hf]
  clear h1 h2 h3 h4 hok hz hst hN hf
  obtain ⟨i0, hi, hz0, hz1, hz2⟩ := info_parts info_int
  go_enter Tryz.func199, Tryz.ntmps199
  obtain ⟨hB0, hB1, hK0, hP0, hBW⟩ := four_boxes w c (.slice a1 n c1) (.slice a2 n2 c2) (.slice z1 n zc)
  go_upto_region 2 with fail
  generalize (((w.alloc (.cells #[.bool c, .slice a1 n c1, .slice a2 n2 c2] 25)).alloc (.cells #[.bool false, .slice none 0 0, .slice none 0 0] 25)).alloc (.cells #[] 3)).alloc (.cells #[.bool c, .slice z1 n zc, .slice (some ⟨w.heap.size + 1 + 1, 0, none⟩) 0 0] 25) = W at *
  have HST0 := hide (Stg.start f hP0 hK0 hBW (by omega) (by omega))
  have HB0 := hide hB0
  have HB1 := hide hB1
  have HBW := hide hBW
  clear hB0 hB1 hK0 hP0 hBW
  go_wp2_with (go_at_call 48; refine (l3Count_eq _ _ _ zs _ ((unhide H4).below (Nat.le_refl _) (unhide HBW)) _ HN).mono ?_; rintro e wq ⟨rfl, rfl⟩)
  go_loopw [9] (fun i wr => ∃ P g cap, P ≤ N ∧ i = .int .i64 (P : Nat) ∧ Hid (Stg w (w.heap.size + 1 + 1 + 1) c (.slice z1 n zc) f P wr g cap) ∧ Hid (Box wr w.heap.size c (.slice a1 n c1) (.slice a2 n2 c2)) ∧ Hid (Box wr (w.heap.size + 1) false (.slice none 0 0) (.slice none 0 0))) (fun i _ => N - (intOf i).toNat)
  case atStart => exact ⟨0, _, 0, Nat.zero_le _, rfl, HST0, HB0, HB1⟩
  case round =>
    obtain ⟨wo, hwo⟩ : ∃ x, x = wr := ⟨_, rfl⟩
    subst hwo
    obtain ⟨P, g, cap, hP, rfl, hst, hb0, hb1⟩ := hrel
    clear HST0 HB0 HB1 HBW
    by_cases hlt : P < N
    · have HFU : Hid (Full zs) := full_of (shapeB_in (unhide HZ)).1 (by rw [prodAll_count zs (unhide HZ), unhide HN]; omega)
      obtain ⟨D, hD⟩ : ∃ D, D = digits zs (P : Nat) := ⟨_, rfl⟩
      have hDl : D.length = n := by rw [hD, digits_len]; exact unhide hl4
      obtain ⟨AX, hAX⟩ : ∃ A, A = addIx D st := ⟨_, rfl⟩
      have hAl : AX.length = n := by rw [hAX, addIx_len]; exact hDl
      have HFP : Hid (f P = if insideN sh AX sh.length = true then (dt.getD (place sh AX).toNat 0, 0) else (fillOf c, 0)) := by
        rw [unhide HF, hAX, hD]; rfl
      have HDI : Hid (IxIn zs D) := by rw [hD]; exact digits_in (unhide HFU) _
      have HAX := hide hAX
      have HDL := hide hDl
      have HAL := hide hAl
      have HLW := hide (unhide hst).low
      have hwz := (unhide hst).low.size
      clear hAX hDl hAl
      go_wp2_with (go_at_call 55; refine (l5Index_any z1 n zc zs (P : Nat) wo ((unhide H4).below (Nat.le_refl _) (unhide HLW)) (by omega) (fun k => ((shapeB_in (unhide HZ)).1.cell k).2) (unhide HFU) (by omega) (by omega)).mono ?_; rintro e w2 ⟨rfl, hK2, hb2⟩; rw [← hD] at hK2; have HK2 := hide hK2; have HB2 := hide hb2; clear hK2 hb2)
      obtain ⟨q, hq⟩ : ∃ q, wo.heap.size = q := ⟨_, rfl⟩
      rw [hq] at HK2 HB2 ⊢
      go_loopw [11, 12] (fun b i wx => ∃ k : Nat, k ≤ n ∧ i = .int .i64 (k : Nat) ∧ b = .bool (insideN sh AX k) ∧ Hid (Blk wx q (AX.take k ++ D.drop k)) ∧ Hid (Below q wo wx)) (fun _ i _ => n - (intOf i).toNat)
      case atStart => exact ⟨0, Nat.zero_le _, rfl, rfl, by simpa using HK2, HB2⟩
      case round =>
        obtain ⟨k, hk, rfl, rfl, hb, hbl⟩ := hrel
        clear HK2 HB2 w2
        have HLX := hide ((unhide HLW).trans ((unhide hbl).mono (by omega)))
        obtain ⟨x0, x1, x2, x3, x4, x5, x6⟩ := ((unhide hb0).below (by omega) (unhide hbl)).all
        by_cases hlk : k < n
        · have hkm : k < m := by omega
          obtain ⟨bz, oz, rfl, hbz, hcz⟩ := (unhide H3).get hkm
          have hcy := ((unhide HLX).cell (p := ⟨bz, oz + k, none⟩) hbz).trans hcz
          have hcx := (unhide hb).cell (i := k) (by rw [mix_len (by rw [unhide HAL, unhide HDL]) (by rw [unhide HDL]; exact hk), unhide HDL]; exact hlk)
          rw [mix_get (by rw [unhide HAL, unhide HDL]) (by rw [unhide HDL]; exact hlk)] at hcx
          have hfx := (unhide hb).free k
          have hsb := unhide HST k hlk
          have hxi := unhide HDI k (by rw [unhide hl4]; exact hlk)
          have hzc := ((shapeB_in (unhide HZ)).1.cell k).2
          have HAK : Hid (AX.getD k 0 = D.getD k 0 + st.getD k 0) := by rw [unhide HAX, addIx_get _ _ _ (by rw [unhide HDL]; exact hlk)]; exact rfl
          obtain ⟨x, hx⟩ : ∃ x, x = D.getD k 0 := ⟨_, rfl⟩
          obtain ⟨y, hy⟩ : ∃ y, y = st.getD k 0 := ⟨_, rfl⟩
          rw [← hx] at hcx hxi HAK
          rw [← hy] at hcy hsb HAK
          have hwr : IntKind.i64.wrap (x + y) = x + y := by rw [IntKind.wrap_i64]; omega
          clear hcz hx hy
          go_upto_region 11 with fail
          go_cut [] (fun wy => Blk wy q (AX.take (k + 1) ++ D.drop (k + 1)) ∧ Below q wo wy)
          case first =>
            as_aux_lemma =>
              go_region
              all_goals go_wp2_with fail
              all_goals go_meet
              all_goals case rel =>
                refine ⟨?_, ?_⟩
                · rw [← mix_set (by rw [unhide HAL, unhide HDL]) (by rw [unhide HDL]; exact hlk), unhide HAK]
                  exact (unhide hb).drew.set k _
                · repeat (first | exact unhide hbl | refine Below.drew ?_ | refine Below.setCell ?_ (by exact Nat.le_refl _) _)
          case rest =>
            obtain ⟨w3, hw3⟩ : ∃ x, x = wc := ⟨_, rfl⟩
            subst hw3
            obtain ⟨hb', hbl'⟩ := hcut
            have HB' := hide hb'
            have HBL' := hide hbl'
            have HLY := hide ((unhide HLW).trans (hbl'.mono (by omega)))
            obtain ⟨bs, os, rfl, hbs, hcs⟩ := (unhide H1).get hlk
            have hcs' := ((unhide HLY).cell (p := ⟨bs, os + k, none⟩) hbs).trans hcs
            have hcz := hb'.cell (i := k) (by rw [mix_len (by rw [unhide HAL, unhide HDL]) (by rw [unhide HDL]; omega), unhide HDL]; exact hlk)
            have e9 : (AX.take (k + 1) ++ D.drop (k + 1)).getD k 0 = x + y := by rw [← unhide HAK]; exact mix_got (by rw [unhide HAL]; exact hlk)
            rw [e9] at hcz
            obtain ⟨s, hse⟩ : ∃ s, s = sh.getD k 0 := ⟨_, rfl⟩
            rw [← hse] at hcs'
            have HIN : Hid (insideN sh AX (k + 1) = (insideN sh AX k && (decide (0 ≤ x + y) && decide (x + y < s)))) := by rw [← unhide HAK, hse]; exact rfl
            obtain ⟨x0, x1, x2, x3, x4, x5, x6⟩ := ((unhide hb0).below (by omega) hbl').all
            obtain ⟨ib, hib⟩ : ∃ b, b = insideN sh AX k := ⟨_, rfl⟩
            rw [← hib] at HIN ⊢
            obtain ⟨z, hz⟩ : ∃ z, z = x + y := ⟨_, rfl⟩
            rw [← hz] at HIN hcz
            clear hb' hbl' hcs e9 hse hib hcx hcy hfx hwr hz hxi hsb HAK hbz hb hbl HLX
            cases ib with
            | false =>
              go_wp2_with fail
              go_quiet (fail)
              go_wp2_with fail
              go_roundw
              case rel => exact ⟨k + 1, by omega, by go_num, by rw [unhide HIN]; rfl, Blk.drewN (unhide HB') nq, Below.drewN (unhide HBL') nq⟩
              case measure => simp [intOf]; omega
            | true =>
              by_cases hz0 : 0 ≤ z
              · have g1 : decide (0 ≤ z) = true := decide_eq_true hz0
                by_cases hzs : z < s
                · have HIV : Hid (insideN sh AX (k + 1) = true) := by rw [unhide HIN]; show (true && (decide (0 ≤ z) && decide (z < s))) = true; rw [decide_eq_true hz0, decide_eq_true hzs]; rfl
                  go_wp2_with fail
                  go_quiet (fail)
                  go_wp2_with fail
                  go_roundw
                  case rel => exact ⟨k + 1, by omega, by go_num, by rw [unhide HIV], Blk.drewN (unhide HB') nq, Below.drewN (unhide HBL') nq⟩
                  case measure => simp [intOf]; omega
                · have HIV : Hid (insideN sh AX (k + 1) = false) := by rw [unhide HIN]; show (true && (decide (0 ≤ z) && decide (z < s))) = false; rw [decide_eq_true hz0, decide_eq_false hzs]; rfl
                  go_wp2_with fail
                  go_quiet (fail)
                  go_wp2_with fail
                  go_roundw
                  case rel => exact ⟨k + 1, by omega, by go_num, by rw [unhide HIV, decide_eq_false (by omega)], Blk.drewN (unhide HB') nq, Below.drewN (unhide HBL') nq⟩
                  case measure => simp [intOf]; omega
              · have HIV : Hid (insideN sh AX (k + 1) = false) := by rw [unhide HIN]; show (true && (decide (0 ≤ z) && decide (z < s))) = false; rw [decide_eq_false hz0]; rfl
                have g1 : decide (0 ≤ z) = false := decide_eq_false hz0
                have g2 : z < 0 := by omega
                go_wp2_with fail
                go_quiet (fail)
                go_wp2_with fail
                go_roundw
                case rel => exact ⟨k + 1, by omega, by go_num, by rw [unhide HIV], Blk.drewN (unhide HB') nq, Below.drewN (unhide HBL') nq⟩
                case measure => simp [intOf]; omega
        · have hkn : k = n := by omega
          subst hkn
          have HST2 := hide ((unhide hst).below (by rw [hq]; exact unhide hbl))
          have HC0 := hide ((unhide hb0).below (by omega) (unhide hbl))
          have HC1 := hide ((unhide hb1).below (by omega) (unhide hbl))
          have HAB : Hid (Blk wr q AX) := by
            have := unhide hb
            rwa [List.take_of_length_le (by rw [unhide HAL]; exact Nat.le_refl _), List.drop_of_length_le (by rw [unhide HDL]; exact Nat.le_refl _), List.append_nil] at this
          clear hst hb0 hb1 hb hbl HLW
          obtain ⟨ib, hib⟩ : ∃ b, insideN sh AX k = b := ⟨_, rfl⟩
          rw [hib]
          have HIB : Hid (insideN sh AX sh.length = ib) := by rw [unhide hl1]; exact hib
          clear hib
          cases ib with
          | false =>
            obtain ⟨r1, hr1⟩ : ∃ r, r = fillOf c := ⟨_, rfl⟩
            have HR : Hid ((f P).1 = r1) := by rw [unhide HFP, if_neg (by rw [unhide HIB]; simp), hr1]; exact rfl
            have hcall := l3Fill_any c wr
            rw [← hr1] at hcall
            clear hr1
            go_upto_region 16 with (go_at_call 74; refine hcall.mono ?_; rintro e w4 ⟨rfl, hw⟩; obtain rfl := hw.symm)
            clear hcall x0 x1 x2 x3 x4 x5 x6
            have hS := unhide HST2
            have hown := hS.owns
            have hlow := hS.low.size
            obtain ⟨y0, y1, y2, y3, y4, y5, y6⟩ := hS.box.all
            go_wp2_with (at_builtin; refine wpList_append_lies _ rfl _ _ 23 rfl w.heap.size 3 i0 (.int .i64 0) 1 8 Tryz.underlying23 hi hz0 hz1 hz2 rfl (by decide) _ _ _ rfl (hown.alloc _) ⟨wr.heap.size, 0, none⟩ 1 1 [.int .i64 r1] rfl rfl (cells_new _ _) (one_one _) (by omega) (by unfold maxLen; omega) (by omega) (by simp; omega) (wr.heap.size + 1) (by simp) ?_; intro g' cap' w7 hown' hgrow hat hlt7; obtain ⟨hb7, hst7⟩ := hS.push _ (unhide HR) hown' hgrow; have hc0 := (unhide HC0).grown hown _ hgrow; have hc1 := (unhide HC1).grown hown _ hgrow; obtain ⟨z0', z1', z2', z3', z4', z5', z6'⟩ := hb7.all; clear hgrow hat hown')
            go_roundw
            case rel => exact ⟨P + 1, g', cap', by omega, by go_num, hst7, hc0.other (by simp; omega) _, hc1.other (by simp) _⟩
            case measure => simp [intOf]; omega
          | true =>
            have hin := inside_in (unhide HIB)
            have hpb := place_bd hin
            obtain ⟨hsin, hpl, _⟩ := shapeIn_of (unhide HOK)
            rw [hpl, unhide hl2] at hpb
            obtain ⟨j, hj⟩ : ∃ j : Nat, place sh AX = (j : Int) := ⟨(place sh AX).toNat, by omega⟩
            have hjl : j < n2 := by omega
            obtain ⟨bd, od, rfl, hbd, hcd⟩ := (unhide H2).get hjl
            have hcd' := ((unhide HLX).cell (p := ⟨bd, od + j, none⟩) hbd).trans hcd
            obtain ⟨r1, hr1⟩ : ∃ r, r = dt.getD j 0 := ⟨_, rfl⟩
            rw [← hr1] at hcd'
            have HR : Hid ((f P).1 = r1) := by rw [unhide HFP, if_pos (unhide HIB), hr1, hj]; exact rfl
            have hbdl : bd < wr.heap.size := Nat.lt_of_lt_of_le hbd (unhide HLX).size
            have hcall := l3Fill_any c wr
            have HCA : Hid (∀ wy, Below wr.heap.size wr wy → Calls Tryz.prog 56 #[.slice a1 k c1, .slice (some ⟨q, 0, none⟩) k k] wy fun e w' => e = .returned (.int .i64 (j : Nat)) ∧ Below wy.heap.size wy w') := by
              intro wy hwy
              rw [← hj]
              exact l5At_any a1 _ k c1 k k sh AX wy (((unhide H1).below (Nat.le_refl _) (unhide HLX)).below (Nat.le_refl _) hwy) (((unhide HAB).below (Nat.le_refl _) hwy).row (unhide HAL) (by omega)) (Nat.le_refl _) hsin hin
            clear hin hpb hsin hpl hj hr1 hcd
            go_upto_region 15 with (go_at_call 74; refine hcall.mono ?_; rintro e w4 ⟨rfl, hw⟩; obtain rfl := hw.symm)
            clear hcall
            go_cut [13] (fun v wy => v = .int .i64 r1 ∧ Below wr.heap.size wr wy)
            case first =>
              as_aux_lemma =>
                have HKEEP : ∀ wy, Below wr.heap.size wr wy → Below wr.heap.size wr wy ∧ wy.cell? ⟨w.heap.size, 1, none⟩ = some (.slice a1 k c1) ∧ wy.cell? ⟨w.heap.size, 2, none⟩ = some (.slice (some ⟨bd, od, none⟩) n2 c2) ∧ wy.cell? ⟨bd, od + j, none⟩ = some (.int .i64 r1) := fun wy hwy => ⟨hwy, ((unhide HC0).below (Nat.le_refl _) hwy).cells.2.1, ((unhide HC0).below (Nat.le_refl _) hwy).cells.2.2, (hwy.cell (p := ⟨bd, od + j, none⟩) hbdl).trans hcd'⟩
                go_region_held3 (fun wy => Below wr.heap.size wr wy ∧ wy.cell? ⟨w.heap.size, 1, none⟩ = some (.slice a1 k c1) ∧ wy.cell? ⟨w.heap.size, 2, none⟩ = some (.slice (some ⟨bd, od, none⟩) n2 c2) ∧ wy.cell? ⟨bd, od + j, none⟩ = some (.int .i64 r1)) (first | exact HKEEP _ hKA | exact HKEEP _ (Below.refl _ _).drew | exact HKEEP _ (Below.refl _ _)) (first | (go_at_call 56; refine (unhide HCA _ (by exact (Below.refl _ _).drew)).mono ?_; rintro e wA ⟨rfl, hbA⟩; have hKA : Below wr.heap.size wr wA := (Below.refl _ _).drew.trans (hbA.mono (by simp))))
                all_goals go_wp2_with fail
                all_goals go_meet
                all_goals case rel => exact ⟨rfl, hKA⟩
            case rest =>
              obtain ⟨w5, hw5⟩ : ∃ x, x = wc := ⟨_, rfl⟩
              subst hw5
              obtain ⟨rfl, hb5⟩ := hcut
              have HST3 := hide ((unhide HST2).below hb5)
              have HD0 := hide ((unhide HC0).below (Nat.le_refl _) hb5)
              have HD1 := hide ((unhide HC1).below (Nat.le_refl _) hb5)
              clear hb5 HCA HST2 HC0 HC1 HAB x0 x1 x2 x3 x4 x5 x6 hcd'
              have hS := unhide HST3
              have hown := hS.owns
              have hlow := hS.low.size
              obtain ⟨y0, y1, y2, y3, y4, y5, y6⟩ := hS.box.all
              go_wp2_with (at_builtin; refine wpList_append_lies _ rfl _ _ 23 rfl w.heap.size 3 i0 (.int .i64 0) 1 8 Tryz.underlying23 hi hz0 hz1 hz2 rfl (by decide) _ _ _ rfl (hown.alloc _) ⟨w5.heap.size, 0, none⟩ 1 1 [.int .i64 r1] rfl rfl (cells_new _ _) (one_one _) (by omega) (by unfold maxLen; omega) (by omega) (by simp; omega) (w5.heap.size + 1) (by simp) ?_; intro g' cap' w7 hown' hgrow hat hlt7; obtain ⟨hb7, hst7⟩ := hS.push _ (unhide HR) hown' hgrow; have hc0 := (unhide HD0).grown hown _ hgrow; have hc1 := (unhide HD1).grown hown _ hgrow; obtain ⟨z0', z1', z2', z3', z4', z5', z6'⟩ := hb7.all; clear hgrow hat hown')
              go_roundw
              case rel => exact ⟨P + 1, g', cap', by omega, by go_num, hst7, hc0.other (by simp; omega) _, hc1.other (by simp) _⟩
              case measure => simp [intOf]; omega
    · have hPN : P = N := by omega
      subst hPN
      obtain ⟨x0, x1, x2, x3, x4, x5, x6⟩ := (unhide hb1).all
      obtain ⟨y0, y1, y2, y3, y4, y5, y6⟩ := (unhide hst).box.all
      have HLW := hide (unhide hst).low
      obtain ⟨ad', cd, hv, hD⟩ := Own.of_owns (unhide hst).owns (by omega)
      cases hv
      have HD := hide hD
      have HBB := hide (unhide hb1)
      clear hst hb0 hb1 hD
      go_wp2
      refine bodyPost_ret (v := .agg #[.bool c, .slice z1 n zc, .slice (some ⟨g, 0, none⟩) P cap]) (by simp [results, Tryz.results199, go_sem, x0, x1, x2]) rfl ?_
      exact ⟨g, cap, rfl, (unhide HD).row.sets (unhide HBB) _ _ _, (((unhide HLW).setCell (by simp) _).setCell (by simp) _).setCell (by simp) _⟩

end Go.Proofs.YtgjpchnkodnieaaGreatDoor
namespace Go.Proofs.YtgjpchnkodnieaaGreatDoor
open Go.RowKit

set_option maxRecDepth 20000 in
set_option maxHeartbeats 2000000 in
theorem l3Copy_owns (c : Bool) (a1 a2 : Addr) (n1 n2 c1 c2 : Nat) (sh dt : List Int) (w : World) (h1 : Row w (some a1) n1 sh) (h2 : Row w (some a2) n2 dt) :
    Calls Tryz.prog 155 #[.agg #[.bool c, .slice (some a1) n1 c1, .slice (some a2) n2 c2]] w fun e w' => ∃ b1 d1 b2 d2, e = .returned (.agg #[.bool c, .slice b1 n1 d1, .slice b2 n2 d2]) ∧ w'.ownsRow (w.heap.size + 2) 3 1 (.slice b1 n1 d1) n1 (sh.map (Value.int .i64)) ∧ Own w' w.heap.size b2 n2 dt ∧ (∀ x, At b2 n2 x → (Value.slice b1 n1 d1).ownBlock ≠ some x) ∧ Below w.heap.size w w' := by
  have H1 := hide h1
  have H2 := hide h2
  clear h1 h2
  obtain ⟨W0, hW0⟩ : ∃ W0, ((w.alloc (.cells #[.bool c, .slice (some a1) n1 c1, .slice (some a2) n2 c2] 25)).alloc (.cells #[.bool false, .slice none 0 0, .slice none 0 0] 25)) = W0 := ⟨_, rfl⟩
  have hz0 : W0.heap.size = w.heap.size + 2 := by rw [← hW0]; simp
  have HBX : Hid (∀ wx, Below W0.heap.size W0 wx → Box wx w.heap.size c (.slice (some a1) n1 c1) (.slice (some a2) n2 c2) ∧ Box wx (w.heap.size + 1) false (.slice none 0 0) (.slice none 0 0) ∧ Below w.heap.size w wx) := by
    intro wx hwx
    rw [← hW0] at hwx
    exact boxes2 hwx
  have HK0 : Hid (Box W0 w.heap.size c (.slice (some a1) n1 c1) (.slice (some a2) n2 c2)) := (unhide HBX _ (Below.refl _ _)).1
  have HKEEP : ∀ wx, Below (w.heap.size + 1) W0 wx → Below (w.heap.size + 1) W0 wx ∧ wx.cell? ⟨w.heap.size, 0, none⟩ = some (.bool c) ∧ wx.cell? ⟨w.heap.size, 1, none⟩ = some (.slice (some a1) n1 c1) ∧ wx.cell? ⟨w.heap.size, 2, none⟩ = some (.slice (some a2) n2 c2) := fun wx hwx => ⟨hwx, ((unhide HK0).low (by omega) hwx).cells⟩
  obtain ⟨B0, B1, hB0⟩ := unhide HBX _ (Below.refl _ _)
  obtain ⟨x0, x1, x2, x3, x4, x5, x6⟩ := B0.all
  clear B0 B1
  go_enter Tryz.func155, Tryz.ntmps155
  go_wp2_with fail
  go_region_held (fun wx => Below (w.heap.size + 1) W0 wx ∧ wx.cell? ⟨w.heap.size, 0, none⟩ = some (.bool c) ∧ wx.cell? ⟨w.heap.size, 1, none⟩ = some (.slice (some a1) n1 c1) ∧ wx.cell? ⟨w.heap.size, 2, none⟩ = some (.slice (some a2) n2 c2)) (first | exact HKEEP _ (hKB.mono (by omega)) | exact HKEEP _ ((((hKB.mono (by omega)).setCell (by simp) _).setCell (by simp) _).setCell (by simp) _) | exact HKEEP _ (hKA.mono (by omega)) | exact HKEEP _ (Below.refl _ _).drew)
    (first
    | (go_at_call_of 71 (Value.slice (some a1) n1 c1); refine (l3Ints_owns _ _ _ sh _ (by exact (unhide H1).below (Nat.le_refl _) hB0.drew)).mono ?_; rintro e wA ⟨b1, d1, rfl, hOA, hbA⟩; have hKA : Below W0.heap.size W0 wA := (Below.refl _ _).drew.trans (hbA.mono (by simp)); have HOA : Hid (wA.ownsRow (w.heap.size + 2) 3 1 (.slice b1 n1 d1) n1 (sh.map (Value.int .i64))) := owns_mono hOA (by simp; omega); obtain ⟨t0, t1, t2, t3, t4, t5, t6⟩ := (unhide HBX _ hKA).2.1.all; clear hOA)
    | (go_at_call_of 71 (Value.slice (some a2) n2 c2); refine (l3Ints_any _ _ _ dt _ (by exact (unhide H2).below (Nat.le_refl _) (unhide HBX _ hKA).2.2)).mono ?_; rintro e wB ⟨b2, d2, rfl, hOB, hbB⟩; have hKB : Below W0.heap.size W0 wB := hKA.trans (hbB.mono hKA.size); have HOB : Hid (Own wB W0.heap.size b2 n2 dt) := hOB.mono hKA.size; have HAP : Hid (∀ x, At b2 n2 x → (Value.slice b1 n1 d1).ownBlock ≠ some x) := (fun x hx e => by have h1 := hOB.low hx; have h2 := owns_lt (unhide HOA) e; omega); have HOA' := hide (owns_below (unhide HOA) (Nat.le_refl _) hbB); obtain ⟨s0, s1, s2, s3, s4, s5, s6⟩ := (unhide HBX _ hKB).2.1.all; clear hOB))
  go_wp2_with fail
  have hp2 : ∀ x, At b2 n2 x → x ≠ w.heap.size + 1 := fun x hx => by have := (unhide HOB).low hx; omega
  refine bodyPost_ret (v := .agg #[.bool c, .slice b1 n1 d1, .slice b2 n2 d2]) (by simp [results, Tryz.results155, go_sem, s0, s1, s2]) rfl ?_
  exact ⟨b1, d1, b2, d2, rfl, owns_low_set (owns_low_set (owns_low_set (unhide HOA') (by omega) _) (by omega) _) (by omega) _, ((((unhide HOB).mono (by omega)).other hp2 _).other hp2 _).other hp2 _, unhide HAP, (((unhide HBX _ hKB).2.2.setCell (by simp) _).setCell (by simp) _).setCell (by simp) _⟩

end Go.Proofs.YtgjpchnkodnieaaGreatDoor
namespace Go.Proofs.YtgjpchnkodnieaaGreatDoor
open Go.RowKit

set_option maxHeartbeats 400000 in
theorem l4None_any (w : World) : Calls Tryz.prog 53 #[] w fun e w' => e = .returned (.agg #[.bool false, .slice none 0 0, .slice none 0 0]) ∧ Below w.heap.size w w' := by
  go_enter Tryz.func53, Tryz.ntmps53
  go_wp2
  exact bodyPost_ret (v := .agg #[.bool false, .slice none 0 0, .slice none 0 0]) (by simp [results, Tryz.results53, go_sem]) rfl ⟨rfl, (Below.refl _ _).alloc (Nat.le_refl _) _⟩

end Go.Proofs.YtgjpchnkodnieaaGreatDoor
namespace Go.Proofs.YtgjpchnkodnieaaGreatDoor
open Go.RowKit

theorem info_boolT : (Tryz.prog.info? 4).map (fun i => (i.zero, i.size, i.bytes)) = some (some (.bool false), 1, 1) := by kernel_rfl

/-- Block g holds just the truths bs. -/
def BBlk (w : World) (g : Nat) (bs : List Bool) : Prop := w.heap[g]? = some (.cells (bs.map Value.bool).toArray 4 (0, 0))

theorem BBlk.lt {w : World} {g : Nat} {bs : List Bool} (h : BBlk w g bs) : g < w.heap.size := lt_of_block h
theorem BBlk.cell {w : World} {g : Nat} {bs : List Bool} (h : BBlk w g bs) {i : Nat} (hi : i < bs.length) : w.cell? ⟨g, i, none⟩ = some (.bool (bs.getD i false)) := by
  unfold BBlk at h
  simp [World.cell?, h, hi]
theorem BBlk.free {w : World} {g : Nat} {bs : List Bool} (h : BBlk w g bs) (i : Nat) : w.frozen? ⟨g, i, none⟩ = false := frozen_of_row w g i _ _ h
theorem BBlk.set {w : World} {g : Nat} {bs : List Bool} (h : BBlk w g bs) (i : Nat) (x : Bool) : BBlk (w.setCell ⟨g, i, none⟩ (.bool x)) g (bs.set i x) := by
  unfold BBlk at h ⊢
  rw [heap_setCell_same w g i _ _ _ h]
  simp [List.map_set]
theorem BBlk.other {w : World} {g : Nat} {bs : List Bool} (h : BBlk w g bs) {p : Addr} (hp : g ≠ p.block) (v : Value) : BBlk (w.setCell p v) g bs := (heap_setCell_other w p g v hp).trans h
theorem BBlk.drew {w : World} {g : Nat} {bs : List Bool} (h : BBlk w g bs) : BBlk w.drew g bs := h

theorem BBlk.made (w : World) (n g : Nat) (hg : g = w.heap.size) : BBlk (w.alloc (.cells (madeCells #[.bool false] n) 4)) g (List.replicate n false) := by
  subst hg
  show (w.heap.push _)[w.heap.size]? = _
  rw [madeList]
  simp
theorem BBlk.alloc {w : World} {g : Nat} {bs : List Bool} (h : BBlk w g bs) (o : Obj) : BBlk (w.alloc o) g bs := (Below.heap_alloc w o g h.lt).trans h

end Go.Proofs.YtgjpchnkodnieaaGreatDoor
namespace Go.Proofs.YtgjpchnkodnieaaGreatDoor
open Go.RowKit

theorem Blk.new' {w : World} {g : Nat} (hg : g = w.heap.size) : Blk (w.alloc (.cells #[] 3)) g [] := by subst hg; exact Blk.new w
theorem Box.new' {w : World} {p : Nat} {c : Bool} {v1 v2 : Value} (hp : p = w.heap.size) : Box (w.alloc (.cells #[.bool c, v1, v2] 25)) p c v1 v2 := by subst hp; exact Box.new w c v1 v2

theorem owns_lowB {w w' : World} {base n g cap B : Nat} {xs : List Value} (h : w.ownsRow base 3 1 (.slice (some ⟨g, 0, none⟩) n cap) n xs) (hg : g < B) (hb : Below B w w') : w'.ownsRow base 3 1 (.slice (some ⟨g, 0, none⟩) n cap) n xs := by
  obtain ⟨h1, h2⟩ := h
  refine ⟨h1, ?_⟩
  rcases h2 with h2 | ⟨g', cap', cur, hv, hg', hh, r⟩
  · exact Or.inl h2
  · have e : g = g' := by simp at hv; exact hv.1
    subst e
    exact Or.inr ⟨g, cap', cur, hv, hg', (hb.block g hg).trans hh, r⟩

theorem Blk.grown {w w1 : World} {g g2 : Nat} {zs : List Int} (h : Blk w g zs) (o : Obj) (hg : (w.alloc o).grownBy w1 (some g2)) (hne : g ≠ g2) : Blk w1 g zs :=
  (hg.block g (by have := h.lt; simp; omega) (fun e => hne (by simpa using e))).trans (h.alloc o)

theorem grown_cell {w w1 : World} {b o' g2 : Nat} (o : Obj) (hg : (w.alloc o).grownBy w1 (some g2)) (hb : b < w.heap.size) (hne : b ≠ g2) : w1.cell? ⟨b, o', none⟩ = w.cell? ⟨b, o', none⟩ :=
  World.cell?_of_block (w := w) (a := ⟨b, o', none⟩) ((hg.block b (by simp; omega) (fun e => hne (by simpa using e))).trans (Below.heap_alloc w o b hb))

/-- A struct of an array is laid: its shape a new row of zeros, its numbers none yet. -/
def LaidTr (W : World) (d : Bool) (m : Nat) (r : Value) (wx : World) : Prop :=
  ∃ p gs g0, r = .pointer (some ⟨p, 0, none⟩) ∧ Box wx p d (.slice (some ⟨gs, 0, none⟩) m m) (.slice (some ⟨g0, 0, none⟩) 0 0) ∧ Blk wx gs (List.replicate m 0) ∧ Blk wx g0 [] ∧ Below W.heap.size W wx ∧ W.heap.size ≤ p ∧ W.heap.size ≤ gs ∧ W.heap.size ≤ g0 ∧ gs ≠ g0 ∧ gs ≠ p ∧ g0 ≠ p

theorem laidT_of {W wx : World} {d : Bool} {m p gs g0 : Nat} (h1 : Box wx p d (.slice (some ⟨gs, 0, none⟩) m m) (.slice (some ⟨g0, 0, none⟩) 0 0)) (h2 : Blk wx gs (List.replicate m 0)) (h3 : Blk wx g0 []) (h4 : Below W.heap.size W wx) (h5 : W.heap.size ≤ p ∧ W.heap.size ≤ gs ∧ W.heap.size ≤ g0 ∧ gs ≠ g0 ∧ gs ≠ p ∧ g0 ≠ p) : LaidTr W d m (.pointer (some ⟨p, 0, none⟩)) wx :=
  ⟨p, gs, g0, rfl, h1, h2, h3, h4, h5⟩

end Go.Proofs.YtgjpchnkodnieaaGreatDoor
namespace Go.Proofs.YtgjpchnkodnieaaGreatDoor
open Go.RowKit

/-- The statement that appends an element that l5At finds. -/
def opsT : Array Oper :=
  #[{ dst := some 115, op := Op.fieldAddr 25 (Operand.tmp 8) 2, type := 0, pos := "l5_shape.go:187", after := #[], guard := none },
    { dst := some 116, op := Op.load 23 (Operand.tmp 115), type := 23, pos := "l5_shape.go:187", after := #[{ on := 0, ground := Ground.data }], guard := none },
    { dst := some 117, op := Op.fieldAddr 25 (Operand.tmp 3) 2, type := 0, pos := "l5_shape.go:187", after := #[], guard := none },
    { dst := some 118, op := Op.load 23 (Operand.tmp 117), type := 23, pos := "l5_shape.go:187", after := #[{ on := 2, ground := Ground.data }], guard := none },
    { dst := some 119, op := Op.fieldAddr 25 (Operand.tmp 3) 1, type := 0, pos := "l5_shape.go:187", after := #[], guard := none },
    { dst := some 120, op := Op.load 23 (Operand.tmp 119), type := 23, pos := "l5_shape.go:187", after := #[{ on := 4, ground := Ground.data }], guard := none },
    { dst := some 121, op := Op.move (Operand.tmp 14), type := 23, pos := "l5_shape.go:187", after := #[], guard := none },
    { dst := some 122, op := Op.call { callee := Callee.value (Operand.func 56), args := #[Operand.tmp 120, Operand.tmp 121], argTypes := #[23, 23] }, type := 3, pos := "l5_shape.go:187", after := #[{ on := 5, ground := Ground.data }, { on := 6, ground := Ground.data }], guard := none },
    { dst := some 123, op := Op.indexAddr 23 (Operand.tmp 118) (Operand.tmp 122), type := 0, pos := "l5_shape.go:187", after := #[{ on := 3, ground := Ground.data }, { on := 7, ground := Ground.data }], guard := none },
    { dst := some 124, op := Op.load 3 (Operand.tmp 123), type := 3, pos := "l5_shape.go:187", after := #[{ on := 8, ground := Ground.data }], guard := none },
    { dst := some 125, op := Op.buildSlice 23 1 #[(0, Operand.tmp 124)], type := 23, pos := "l5_shape.go:187", after := #[{ on := 9, ground := Ground.data }], guard := none },
    { dst := some 126, op := Op.call { callee := Callee.builtin Builtin.append, args := #[Operand.tmp 116, Operand.tmp 125], argTypes := #[23, 23] }, type := 23, pos := "l5_shape.go:187", after := #[{ on := 1, ground := Ground.data }, { on := 10, ground := Ground.data }, { on := 7, ground := Ground.chain }], guard := none },
    { dst := some 127, op := Op.fieldAddr 25 (Operand.tmp 8) 2, type := 0, pos := "l5_shape.go:187", after := #[{ on := 0, ground := Ground.phase }, { on := 1, ground := Ground.phase }, { on := 2, ground := Ground.phase }, { on := 3, ground := Ground.phase }, { on := 4, ground := Ground.phase }, { on := 5, ground := Ground.phase }, { on := 6, ground := Ground.phase }, { on := 7, ground := Ground.phase }, { on := 8, ground := Ground.phase }, { on := 9, ground := Ground.phase }, { on := 10, ground := Ground.phase }, { on := 11, ground := Ground.phase }], guard := none },
    { dst := none, op := Op.store 23 (Operand.tmp 127) (Operand.tmp 126), type := 0, pos := "l5_shape.go:187", after := #[{ on := 12, ground := Ground.data }, { on := 11, ground := Ground.data }, { on := 11, ground := Ground.chain }, { on := 0, ground := Ground.phase }, { on := 1, ground := Ground.phase }, { on := 2, ground := Ground.phase }, { on := 3, ground := Ground.phase }, { on := 4, ground := Ground.phase }, { on := 5, ground := Ground.phase }, { on := 6, ground := Ground.phase }, { on := 7, ground := Ground.phase }, { on := 8, ground := Ground.phase }, { on := 9, ground := Ground.phase }, { on := 10, ground := Ground.phase }, { on := 11, ground := Ground.phase }], guard := none }]

section
variable {o : Oper} {a : Act}
theorem runF (x : Operand) (b k : Nat) (hk : k = 1 ∨ k = 2) (ho : o.op = .fieldAddr 25 x k) (hx : a.eval x = .pointer (some ⟨b, 0, none⟩)) (w : World) : (execOp a.eval o).run Tryz.prog w = .ok (.value (.pointer (some ⟨b, k, none⟩))) w := by
  unfold execOp
  rcases hk with rfl | rfl
  · simp only [ho, hx]
    go_simp
  · simp only [ho, hx]
    go_simp

theorem runL (x : Operand) (p : Addr) {s : Option Addr} {l c : Nat} (ho : o.op = .load 23 x) (hx : a.eval x = .pointer (some p)) (w : World) (hc : w.cell? p = some (.slice s l c)) : (execOp a.eval o).run Tryz.prog w = .ok (.value (.slice s l c)) w := by
  unfold execOp
  simp only [ho, hx]
  go_simp

theorem runI (x : Operand) (p : Addr) {z : Int} (ho : o.op = .load 3 x) (hx : a.eval x = .pointer (some p)) (w : World) (hc : w.cell? p = some (.int .i64 z)) : (execOp a.eval o).run Tryz.prog w = .ok (.value (.int .i64 z)) w := by
  unfold execOp
  simp only [ho, hx]
  go_simp

theorem runM (x : Operand) {v : Value} (ho : o.op = .move x) (hx : a.eval x = v) (w : World) : (execOp a.eval o).run Tryz.prog w = .ok (.value v) w := by
  unfold execOp
  simp only [ho, hx]
  go_simp

theorem runX (x y : Operand) {b off m c J : Nat} (ho : o.op = .indexAddr 23 x y) (hx : a.eval x = .slice (some ⟨b, off, none⟩) m c) (hy : a.eval y = .int .i64 (J : Nat)) (hJ : J < m) (w : World) : (execOp a.eval o).run Tryz.prog w = .ok (.value (.pointer (some ⟨b, off + J, none⟩))) w := by
  have h1 : (J : Int) < (m : Int) := by omega
  unfold execOp
  simp only [ho, hx, hy]
  go_simp

theorem runB (t : Nat) {z : Int} (ho : o.op = .buildSlice 23 1 #[(0, .tmp t)]) (hx : a.eval (.tmp t) = .int .i64 z) (w : World) : (execOp a.eval o).run Tryz.prog w = .ok (.value (.slice (some ⟨w.heap.size, 0, none⟩) 1 1)) (w.alloc (.cells #[.int .i64 z] 3)) := by
  have hx' : a.tmps[t]?.getD undef = .int .i64 z := by simpa [Act.eval] using hx
  unfold execOp
  simp only [ho]
  go_simp

theorem runS (x y : Operand) (p : Nat) {v1 : Value} {s : Option Addr} {l c : Nat} (ho : o.op = .store 23 x y) (hx : a.eval x = .pointer (some ⟨p, 2, none⟩)) (hy : a.eval y = .slice s l c) (w : World) (hc : w.cell? ⟨p, 2, none⟩ = some v1) (hf : w.frozen? ⟨p, 2, none⟩ = false) : (execOp a.eval o).run Tryz.prog w = .ok .skip (w.setCell ⟨p, 2, none⟩ (.slice s l c)) := by
  unfold execOp
  simp only [ho, hx, hy]
  go_simp
end

theorem runC {K : Act → World → Prop} {Q : Exit → Act → World → Prop} {o : Oper} {a : Act} {w : World} (x y : Operand) {u v : Value} (ho : o.op = .call { callee := .value (.func 56), args := #[x, y], argTypes := #[23, 23] }) (hx : a.eval x = u) (hy : a.eval y = v)
    (h : Calls Tryz.prog 56 #[u, v] w fun | .returned r, w' => K (a.put o.dst r) w' | .panicked c, w' => Q (.panic c) a w' | .outgrown, _ => LetsOut Q) : o.wp Tryz.prog a w K Q := by
  have e : (execOp a.eval o).run Tryz.prog w = .ok (.enter 56 #[u, v]) w := by
    unfold execOp
    simp only [ho]
    go_simp
    rw [← hx, ← hy]
    exact ⟨by cases x <;> simp [Act.eval], by cases y <;> simp [Act.eval]⟩
  unfold Oper.wp
  rw [e]
  exact h

/-- The frame behind the statement. -/
def outT (a : Act) (p b5 : Nat) (vO vD vS vF : Value) (J : Nat) (pd : Addr) (x : Int) (hb : Nat) (v' : Value) : Act :=
  ((((((((((((a.put (some 115) (.pointer (some ⟨p, 2, none⟩))).put (some 116) vO).put (some 117) (.pointer (some ⟨b5, 2, none⟩))).put (some 118) vD).put (some 119) (.pointer (some ⟨b5, 1, none⟩))).put (some 120) vS).put (some 121) vF).put (some 122) (.int .i64 (J : Nat))).put (some 123) (.pointer (some pd))).put (some 124) (.int .i64 x)).put (some 125) (.slice (some ⟨hb, 0, none⟩) 1 1)).put (some 126) v').put (some 127) (.pointer (some ⟨p, 2, none⟩))

set_option maxHeartbeats 4000000 in
set_option maxRecDepth 20000 in
theorem regionT {Q : Exit → Act → World → Prop} (a : Act) (W : World) (hsz : 129 ≤ a.tmps.size) (p b5 : Nat) (h8 : a.eval (.tmp 8) = .pointer (some ⟨p, 0, none⟩)) (h3 : a.eval (.tmp 3) = .pointer (some ⟨b5, 0, none⟩)) (vF : Value) (h14 : a.eval (.tmp 14) = vF)
    (g P cap : Nat) (xs : List Value) (bd od m2 d2 J : Nat) (b1 : Option Addr) (n d1 : Nat) (x : Int) (base : Nat) (hJ : J < m2) (hP : P ≤ 1000000) (S : World → Prop)
    (hS : ∀ wx, S wx → wx.cell? ⟨p, 2, none⟩ = some (.slice (some ⟨g, 0, none⟩) P cap) ∧ wx.cell? ⟨b5, 2, none⟩ = some (.slice (some ⟨bd, od, none⟩) m2 d2) ∧ wx.cell? ⟨b5, 1, none⟩ = some (.slice b1 n d1) ∧ wx.cell? ⟨bd, od + J, none⟩ = some (.int .i64 x) ∧ wx.frozen? ⟨p, 2, none⟩ = false)
    (HK : ∀ wx, Below W.heap.size W wx → S wx)
    (HC : ∀ wx, Below W.heap.size W wx → Calls Tryz.prog 56 #[.slice b1 n d1, vF] wx fun e w' => e = .returned (.int .i64 (J : Nat)) ∧ Below wx.heap.size wx w')
    (hown : W.ownsRow base 3 1 (.slice (some ⟨g, 0, none⟩) P cap) P xs) (hbase : base ≤ W.heap.size)
    (HA : ∀ wx w7, Below W.heap.size W wx → (wx.alloc (.cells #[.int .i64 x] 3)).grownBy w7 (some g) → S w7)
    (hQ : ∀ c a (d : Nat) v w, Q (.panic c) (a.put (some d) v) w → Q (.panic c) a w)
    (hend : ∀ wx g' cap' w7, Below W.heap.size W wx → w7.ownsRow base 3 1 (.slice (some ⟨g', 0, none⟩) (P + 1) cap') (P + 1) (xs ++ [.int .i64 x]) → (wx.alloc (.cells #[.int .i64 x] 3)).grownBy w7 (Value.ownBlock (.slice (some ⟨g, 0, none⟩) P cap)) → (Value.ownBlock (.slice (some ⟨g, 0, none⟩) P cap) = some g' ∨ g' = wx.heap.size + 1) →
      Q .normal (outT a p b5 (.slice (some ⟨g, 0, none⟩) P cap) (.slice (some ⟨bd, od, none⟩) m2 d2) (.slice b1 n d1) vF J ⟨bd, od + J, none⟩ x wx.heap.size (.slice (some ⟨g', 0, none⟩) (P + 1) cap')) (w7.setCell ⟨p, 2, none⟩ (.slice (some ⟨g', 0, none⟩) (P + 1) cap'))) :
    (Code.region 28 opsT true).wp Tryz.prog Q a W := by
  have hb0 : Below W.heap.size W { W with drawn := W.drawn + 1 } := (Below.refl _ _).drew
  have hS0 := HK _ hb0
  obtain ⟨i0, hi, hz0, hz1, hz2⟩ := info_parts info_int
  refine wp_region_L S 13 (by kernel_rfl) ?_
  show wpAnyL _ _ _ _ _ _ (13 + 1) _ _ _
  refine wpAnyL_put 0 115 (.pointer (some ⟨p, 2, none⟩)) rfl rfl (by kernel_rfl) (by kernel_rfl) (by kernel_rfl) (by kernel_rfl) hQ rfl (fun w _ => runF (.tmp 8) p 2 (.inr rfl) rfl h8 w) hS0 ?_
  refine wpAnyL_put 1 116 (.slice (some ⟨g, 0, none⟩) P cap) rfl rfl (by kernel_rfl) (by kernel_rfl) (by kernel_rfl) (by kernel_rfl) hQ rfl (fun w hw => runL (.tmp 115) _ rfl (eval_eq (by omega)) w (hS w hw).1) hS0 ?_
  refine wpAnyL_put 2 117 (.pointer (some ⟨b5, 2, none⟩)) rfl rfl (by kernel_rfl) (by kernel_rfl) (by kernel_rfl) (by kernel_rfl) hQ rfl (fun w _ => runF (.tmp 3) b5 2 (.inr rfl) rfl (by rw [eval_ne (by decide), eval_ne (by decide)]; exact h3) w) hS0 ?_
  refine wpAnyL_put 3 118 (.slice (some ⟨bd, od, none⟩) m2 d2) rfl rfl (by kernel_rfl) (by kernel_rfl) (by kernel_rfl) (by kernel_rfl) hQ rfl (fun w hw => runL (.tmp 117) _ rfl (eval_eq (by rw [put_size, put_size]; omega)) w (hS w hw).2.1) hS0 ?_
  refine wpAnyL_put 4 119 (.pointer (some ⟨b5, 1, none⟩)) rfl rfl (by kernel_rfl) (by kernel_rfl) (by kernel_rfl) (by kernel_rfl) hQ rfl (fun w _ => runF (.tmp 3) b5 1 (.inl rfl) rfl (by rw [eval_ne (by decide), eval_ne (by decide), eval_ne (by decide), eval_ne (by decide)]; exact h3) w) hS0 ?_
  refine wpAnyL_put 5 120 (.slice b1 n d1) rfl rfl (by kernel_rfl) (by kernel_rfl) (by kernel_rfl) (by kernel_rfl) hQ rfl (fun w hw => runL (.tmp 119) _ rfl (eval_eq (by rw [put_size, put_size, put_size, put_size]; omega)) w (hS w hw).2.2.1) hS0 ?_
  refine wpAnyL_put 6 121 (vF) rfl rfl (by kernel_rfl) (by kernel_rfl) (by kernel_rfl) (by kernel_rfl) hQ rfl (fun w _ => runM (.tmp 14) rfl (by rw [eval_ne (by decide), eval_ne (by decide), eval_ne (by decide), eval_ne (by decide), eval_ne (by decide), eval_ne (by decide)]; exact h14) w) hS0 ?_
  refine wpAnyL_one (i := 7) (by kernel_rfl) ?_
  refine op_wp rfl rfl ?_
  have q1 : (((((((a.put (some 115) (.pointer (some ⟨p, 2, none⟩))).put (some 116) (.slice (some ⟨g, 0, none⟩) P cap)).put (some 117) (.pointer (some ⟨b5, 2, none⟩))).put (some 118) (.slice (some ⟨bd, od, none⟩) m2 d2)).put (some 119) (.pointer (some ⟨b5, 1, none⟩))).put (some 120) (.slice b1 n d1)).put (some 121) vF).eval (.tmp 120) = .slice b1 n d1 := by
    rw [eval_ne (by decide)]; exact eval_eq (by rw [put_size, put_size, put_size, put_size, put_size]; omega)
  have q2 : (((((((a.put (some 115) (.pointer (some ⟨p, 2, none⟩))).put (some 116) (.slice (some ⟨g, 0, none⟩) P cap)).put (some 117) (.pointer (some ⟨b5, 2, none⟩))).put (some 118) (.slice (some ⟨bd, od, none⟩) m2 d2)).put (some 119) (.pointer (some ⟨b5, 1, none⟩))).put (some 120) (.slice b1 n d1)).put (some 121) vF).eval (.tmp 121) = vF := eval_eq (by rw [put_size, put_size, put_size, put_size, put_size, put_size]; omega)
  have q3 : (((((((a.put (some 115) (.pointer (some ⟨p, 2, none⟩))).put (some 116) (.slice (some ⟨g, 0, none⟩) P cap)).put (some 117) (.pointer (some ⟨b5, 2, none⟩))).put (some 118) (.slice (some ⟨bd, od, none⟩) m2 d2)).put (some 119) (.pointer (some ⟨b5, 1, none⟩))).put (some 120) (.slice b1 n d1)).put (some 121) vF).eval (.tmp 118) = .slice (some ⟨bd, od, none⟩) m2 d2 := by
    rw [eval_ne (by decide), eval_ne (by decide), eval_ne (by decide)]; exact eval_eq (by rw [put_size, put_size, put_size]; omega)
  have q4 : (((((((a.put (some 115) (.pointer (some ⟨p, 2, none⟩))).put (some 116) (.slice (some ⟨g, 0, none⟩) P cap)).put (some 117) (.pointer (some ⟨b5, 2, none⟩))).put (some 118) (.slice (some ⟨bd, od, none⟩) m2 d2)).put (some 119) (.pointer (some ⟨b5, 1, none⟩))).put (some 120) (.slice b1 n d1)).put (some 121) vF).eval (.tmp 116) = .slice (some ⟨g, 0, none⟩) P cap := by
    rw [eval_ne (by decide), eval_ne (by decide), eval_ne (by decide), eval_ne (by decide), eval_ne (by decide)]; exact eval_eq (by rw [put_size]; omega)
  have q5 : (((((((a.put (some 115) (.pointer (some ⟨p, 2, none⟩))).put (some 116) (.slice (some ⟨g, 0, none⟩) P cap)).put (some 117) (.pointer (some ⟨b5, 2, none⟩))).put (some 118) (.slice (some ⟨bd, od, none⟩) m2 d2)).put (some 119) (.pointer (some ⟨b5, 1, none⟩))).put (some 120) (.slice b1 n d1)).put (some 121) vF).eval (.tmp 8) = .pointer (some ⟨p, 0, none⟩) := by
    rw [eval_ne (by decide), eval_ne (by decide), eval_ne (by decide), eval_ne (by decide), eval_ne (by decide), eval_ne (by decide), eval_ne (by decide)]; exact h8
  have q6 : 129 ≤ (((((((a.put (some 115) (.pointer (some ⟨p, 2, none⟩))).put (some 116) (.slice (some ⟨g, 0, none⟩) P cap)).put (some 117) (.pointer (some ⟨b5, 2, none⟩))).put (some 118) (.slice (some ⟨bd, od, none⟩) m2 d2)).put (some 119) (.pointer (some ⟨b5, 1, none⟩))).put (some 120) (.slice b1 n d1)).put (some 121) vF).tmps.size := by
    rw [put_size, put_size, put_size, put_size, put_size, put_size, put_size]; exact hsz
  unfold outT at hend
  generalize (((((((a.put (some 115) (.pointer (some ⟨p, 2, none⟩))).put (some 116) (.slice (some ⟨g, 0, none⟩) P cap)).put (some 117) (.pointer (some ⟨b5, 2, none⟩))).put (some 118) (.slice (some ⟨bd, od, none⟩) m2 d2)).put (some 119) (.pointer (some ⟨b5, 1, none⟩))).put (some 120) (.slice b1 n d1)).put (some 121) vF) = A at *
  refine runC (.tmp 120) (.tmp 121) rfl q1 q2 ((HC _ hb0).mono ?_)
  rintro e w2 ⟨rfl, hb2⟩
  have hbw : Below W.heap.size W w2 := hb0.trans hb2
  have hS2 := HK _ hbw
  refine ⟨fun _ => hS2, ?_⟩
  show wpAnyL _ _ _ _ _ _ (5 + 1) _ (A.put (some 122) _) _
  refine wpAnyL_put 8 123 (.pointer (some ⟨bd, od + J, none⟩)) rfl rfl (by kernel_rfl) (by kernel_rfl) (by kernel_rfl) (by kernel_rfl) hQ rfl (fun w _ => runX (.tmp 118) (.tmp 122) rfl (by rw [eval_ne (by decide)]; exact q3) (eval_eq (by omega)) hJ w) hS2 ?_
  refine wpAnyL_put 9 124 (.int .i64 x) rfl rfl (by kernel_rfl) (by kernel_rfl) (by kernel_rfl) (by kernel_rfl) hQ rfl (fun w hw => runI (.tmp 123) _ rfl (eval_eq (by rw [put_size]; omega)) w (hS w hw).2.2.2.1) hS2 ?_
  refine wpAnyL_one (i := 10) (by kernel_rfl) ?_
  refine op_wp rfl rfl ?_
  unfold Oper.wp
  rw [runB 124 rfl (eval_eq (by rw [put_size, put_size]; omega)) w2]
  have hbx : Below W.heap.size W (w2.alloc (.cells #[.int .i64 x] 3)) := hbw.alloc hbw.size _
  refine ⟨fun _ => HK _ hbx, ?_⟩
  show wpAnyL _ _ _ _ _ _ (2 + 1) _ ((((A.put (some 122) _).put (some 123) _).put (some 124) _).put (some 125) _) _
  refine wpAnyL_one (i := 11) (by kernel_rfl) ?_
  refine op_wp rfl rfl ?_
  refine wp_append_lies _ (.tmp 116) (.tmp 125) 23 rfl base 3 i0 (.int .i64 0) 1 8 Tryz.underlying23 hi hz0 hz1 hz2 rfl (by decide) (.slice (some ⟨g, 0, none⟩) P cap) P xs (by rw [eval_ne (by decide), eval_ne (by decide), eval_ne (by decide), eval_ne (by decide)]; exact q4) (owns_below hown (Nat.le_refl _) hbx) ⟨w2.heap.size, 0, none⟩ 1 1 [.int .i64 x] (eval_eq (by rw [put_size, put_size, put_size]; omega)) rfl (cells_new _ _) (one_one _) (by omega) (by unfold maxLen; omega) (by omega) (by have := hbw.size; simp; omega) (w2.heap.size + 1) (by simp) ?_
  intro g' cap' w7 hown7 hgrow hat hlt
  have hS7 := HA w2 w7 hbw hgrow
  refine ⟨fun _ => hS7, ?_⟩
  show wpAnyL _ _ _ _ _ _ (1 + 1) _ (((((A.put (some 122) _).put (some 123) _).put (some 124) _).put (some 125) _).put (some 126) _) _
  refine wpAnyL_put 12 127 (.pointer (some ⟨p, 2, none⟩)) rfl rfl (by kernel_rfl) (by kernel_rfl) (by kernel_rfl) (by kernel_rfl) hQ rfl (fun w _ => runF (.tmp 8) p 2 (.inr rfl) rfl (by rw [eval_ne (by decide), eval_ne (by decide), eval_ne (by decide), eval_ne (by decide), eval_ne (by decide)]; exact q5) w) hS7 ?_
  refine wpAnyL_one (i := 13) (by kernel_rfl) ?_
  refine op_wp rfl rfl ?_
  unfold Oper.wp
  rw [runS (.tmp 127) (.tmp 126) p (s := some ⟨g', 0, none⟩) (l := P + 1) (c := cap') rfl (eval_eq (by rw [put_size, put_size, put_size, put_size, put_size]; omega)) (by rw [eval_ne (by decide)]; exact eval_eq (by rw [put_size, put_size, put_size, put_size]; omega)) w7 (hS w7 hS7).1 (hS w7 hS7).2.2.2.2]
  refine ⟨fun h => absurd rfl h, ?_⟩
  refine wpAnyL_done (by kernel_rfl) ?_ _
  exact hend w2 g' cap' w7 hbw hown7 hgrow hat

end Go.Proofs.YtgjpchnkodnieaaGreatDoor
namespace Go.Proofs.YtgjpchnkodnieaaGreatDoor

/-- The code of an array that should have one number. -/
def singleCode (c : Bool) (n : Nat) : Int := if n ≠ 1 then 5 else if c then 3 else 0

/-- Where element t of the rotated array comes from. -/
def rotFrom (n A d t : Nat) : Nat := (t / A / n * n + (t / A % n + d) % n) * A + t % A

def rotAt (n A d : Nat) (dt : List Int) (t : Nat) : Int × Int := (dt.getD (rotFrom n A d t) 0, 0)

theorem rotFrom_at {n A d p i q : Nat} (hi : i < n) (hq : q < A) : rotFrom n A d ((p * n + i) * A + q) = (p * n + (i + d) % n) * A + q := by
  have hA : 0 < A := by omega
  have hn : 0 < n := by omega
  have e1 : ((p * n + i) * A + q) / A = p * n + i := by rw [Nat.add_comm, Nat.add_mul_div_right _ _ hA, Nat.div_eq_of_lt hq, Nat.zero_add]
  have e2 : ((p * n + i) * A + q) % A = q := by rw [Nat.add_comm, Nat.add_mul_mod_self_right, Nat.mod_eq_of_lt hq]
  have e3 : (p * n + i) / n = p := by rw [Nat.add_comm, Nat.add_mul_div_right _ _ hn, Nat.div_eq_of_lt hi, Nat.zero_add]
  have e4 : (p * n + i) % n = i := by rw [Nat.add_comm, Nat.add_mul_mod_self_right, Nat.mod_eq_of_lt hi]
  unfold rotFrom
  rw [e1, e2, e3, e4]

theorem three_lt {B n A p i q : Nat} (hp : p < B) (hi : i < n) (hq : q < A) : (p * n + i) * A + q < B * n * A := by
  have h1 : p * n + i + 1 ≤ B * n := by
    have : (p + 1) * n ≤ B * n := Nat.mul_le_mul_right n hp
    rw [Nat.add_mul, Nat.one_mul] at this
    omega
  have h2 : (p * n + i + 1) * A ≤ B * n * A := Nat.mul_le_mul_right A h1
  rw [Nat.add_mul, Nat.one_mul] at h2
  omega

def rotate (c d : Bool) (sh dt sh' dt' : List Int) (fl : Bool) : Ans :=
  if arrOk c sh dt = true ∧ arrOk d sh' dt' = true then
    if singleCode c dt.length ≠ 0 then noAns (singleCode c dt.length)
    else if sh' = [] ∨ dt' = [] then ⟨d, sh', dt', 0⟩
    else ⟨d, sh', vals (rotAt (axisN sh' fl).toNat (axisA sh' fl).toNat (modOf (axisN sh' fl) (dt.getD 0 0)).toNat dt') dt'.length, 0⟩
  else noAns 3

section
variable {c d fl : Bool} {sh dt sh' dt' : List Int}
theorem rotate_bad1 (h : arrOk c sh dt = false) : rotate c d sh dt sh' dt' fl = noAns 3 := by unfold rotate; rw [if_neg (by simp [h])]
theorem rotate_bad2 (h : arrOk d sh' dt' = false) : rotate c d sh dt sh' dt' fl = noAns 3 := by unfold rotate; rw [if_neg (by simp [h])]
theorem rotate_code (h1 : arrOk c sh dt = true) (h2 : arrOk d sh' dt' = true) (r : Int) (h : singleCode c dt.length = r) (hr : r ≠ 0) : rotate c d sh dt sh' dt' fl = noAns r := by
  unfold rotate; rw [if_pos ⟨h1, h2⟩, h, if_pos hr]
theorem rotate_none (h1 : arrOk c sh dt = true) (h2 : arrOk d sh' dt' = true) (h : singleCode c dt.length = 0) (h3 : sh' = [] ∨ dt' = []) : rotate c d sh dt sh' dt' fl = ⟨d, sh', dt', 0⟩ := by
  unfold rotate; rw [if_pos ⟨h1, h2⟩, if_neg (by simp [h]), if_pos h3]
theorem rotate_go (h1 : arrOk c sh dt = true) (h2 : arrOk d sh' dt' = true) (h : singleCode c dt.length = 0) (h3 : sh' ≠ []) (h4 : dt' ≠ []) (n A e : Nat) (hn : axisN sh' fl = n) (hA : axisA sh' fl = A) (he : modOf n (dt.getD 0 0) = e) : rotate c d sh dt sh' dt' fl = ⟨d, sh', vals (rotAt n A e dt') dt'.length, 0⟩ := by
  unfold rotate; rw [if_pos ⟨h1, h2⟩, if_neg (by simp [h]), if_neg (by rintro (h | h); exact h3 h; exact h4 h), hn, hA, he]; rfl
end

theorem modOf_pos {n : Nat} (hn : 0 < n) (b : Int) : 0 ≤ modOf n b ∧ modOf n b < n := by
  unfold modOf
  have h1 := Int.tmod_lt_of_pos b (by omega : (0 : Int) < n)
  have h2 : -(n : Int) < b.tmod n := Int.lt_tmod_of_pos b (by omega)
  rw [if_neg (by omega)]
  split
  · rename_i h
    have h3 : b.tmod n < 0 := by
      by_cases h4 : b.tmod n < 0
      · exact h4
      · exfalso; apply h.2; rw [decide_eq_false h4, decide_eq_false (by omega)]
    omega
  · rename_i h
    have : ¬ b.tmod n < 0 := by
      intro h4
      apply h
      refine ⟨by omega, ?_⟩
      rw [decide_eq_true h4, decide_eq_false (by omega)]; simp
    omega

end Go.Proofs.YtgjpchnkodnieaaGreatDoor
namespace Go.Proofs.YtgjpchnkodnieaaGreatDoor
open Go.RowKit

set_option maxHeartbeats 400000 in
theorem l5Single_any (c : Bool) (v1 : Value) (a2 : Option Addr) (n2 c2 : Nat) (w : World) (hs : n2 ≤ 17592186044416) (r : Int) (hr : Hid (singleCode c n2 = r)) :
    Calls Tryz.prog 154 #[.agg #[.bool c, v1, .slice a2 n2 c2]] w fun e w' => e = .returned (.int .i64 r) ∧ Below w.heap.size w w' := by
  rw [← hr.out]
  have hW : ∀ o, Below w.heap.size w (w.alloc o) := fun o => (Below.refl _ _).alloc (Nat.le_refl _) _
  by_cases h : n2 = 1
  · subst h
    cases c
    · go_enter Tryz.func154, Tryz.ntmps154
      go_wp2
      go_ret
      exact ⟨rfl, hW _⟩
    · go_enter Tryz.func154, Tryz.ntmps154
      go_wp2
      go_ret
      exact ⟨rfl, hW _⟩
  · have g0 : ((n2 : Int) != 1) = true := by simp; omega
    have HE : Hid (singleCode c n2 = 5) := by show _ = _; unfold singleCode; rw [if_pos h]
    go_enter Tryz.func154, Tryz.ntmps154
    go_wp2
    go_ret
    exact ⟨ret_int HE.out.symm, hW _⟩

end Go.Proofs.YtgjpchnkodnieaaGreatDoor
namespace Go.Proofs.YtgjpchnkodnieaaGreatDoor
open Go.RowKit

/-- The first t elements have been laid. -/
structure RotTo (W : World) (B g off m : Nat) (R D : List Int) (t : Nat) (wr : World) : Prop where
  own : Own wr B (some ⟨g, off, none⟩) m (R.take t ++ D.drop t)
  but : But (fun k => k = g) W wr

theorem RotTo.step {W wr : World} {B g off m t : Nat} {R D : List Int} {x : Int} (h : RotTo W B g off m R D t wr) (hr : R.length = m) (hd : D.length = m) (ht : t < m) (hx : R.getD t 0 = x) : RotTo W B g off m R D (t + 1) (wr.setCell ⟨g, off + t, none⟩ (.int .i64 x)) := by
  refine ⟨?_, h.but.setCell rfl _⟩
  rw [← mix_set (by omega) (by omega), hx]
  exact h.own.set ht x

theorem RotTo.drew {W wr : World} {B g off m t : Nat} {R D : List Int} (h : RotTo W B g off m R D t wr) : RotTo W B g off m R D t wr.drew :=
  ⟨h.own.below (Nat.le_refl _) (Below.refl _ _).drew, h.but.drew⟩

theorem vals_get (f : Nat → Int × Int) (n k : Nat) (hk : k < n) : (vals f n).getD k 0 = (f k).1 := by simp [vals, hk]

theorem wrapN {a : Int} {b : Nat} (h : a = b) (hb : b ≤ 1000000000000000000) : IntKind.i64.wrap a = (b : Int) := by rw [IntKind.wrap_i64, h]; omega

end Go.Proofs.YtgjpchnkodnieaaGreatDoor
namespace Go.Proofs.YtgjpchnkodnieaaGreatDoor
open Go.RowKit

theorem ret_three {a b c a' b' c' : Int} (ha : a = a') (hb : b = b') (hc : c = c') : Ending.returned (.tuple #[.int .i64 a, .int .i64 b, .int .i64 c]) = .returned (.tuple #[.int .i64 a', .int .i64 b', .int .i64 c']) := by rw [ha, hb, hc]

theorem drop_snoc (sh : List Int) (k i : Nat) (h : k < sh.length) (hi : i ≤ k) : (sh.take (k + 1)).drop i = (sh.take k).drop i ++ [sh.getD k 0] := by
  rw [take_snoc sh k h, List.drop_append_of_le_length (by simp; omega)]

theorem prodAll_one (xs : List Int) (x : Int) : prodAll (xs ++ [x]) = prodAll xs * x := by simp [prodAll]

/-- The products in front of and behind place t of the first k. -/
def partB (sh : List Int) (t k : Nat) : Int := prodAll (sh.take (min k t))
def partA (sh : List Int) (t k : Nat) : Int := prodAll ((sh.take k).drop (t + 1))

theorem partB_lt {sh : List Int} {t k : Nat} (hk : k < sh.length) (h : k < t) : partB sh t (k + 1) = partB sh t k * sh.getD k 0 := by
  unfold partB; rw [Nat.min_eq_left (by omega), Nat.min_eq_left (by omega), take_snoc sh k hk, prodAll_one]
theorem partB_ge {sh : List Int} {t k : Nat} (h : t ≤ k) : partB sh t (k + 1) = partB sh t k := by
  unfold partB; rw [Nat.min_eq_right (by omega), Nat.min_eq_right (by omega)]
theorem partA_gt {sh : List Int} {t k : Nat} (hk : k < sh.length) (h : t < k) : partA sh t (k + 1) = partA sh t k * sh.getD k 0 := by
  unfold partA; rw [drop_snoc sh k (t + 1) hk (by omega), prodAll_one]
theorem partA_le {sh : List Int} {t k : Nat} (h : k ≤ t) : partA sh t (k + 1) = partA sh t k := by
  unfold partA; rw [List.drop_eq_nil_of_le (by simp; omega), List.drop_eq_nil_of_le (by simp; omega)]
theorem partB_bd {sh : List Int} (h : ShapeIn sh) (t k : Nat) : 0 ≤ partB sh t k ∧ partB sh t k ≤ 10000 := (h.take _).bd
theorem partA_bd {sh : List Int} (h : ShapeIn sh) (t k : Nat) : 0 ≤ partA sh t k ∧ partA sh t k ≤ 10000 := ((h.take _).drop _).bd

set_option maxHeartbeats 1000000 in
theorem l4Axis_any (a : Option Addr) (n cap : Nat) (sh : List Int) (first : Bool) (w : World) (h : Row w a n sh) (hS : ShapeIn sh) (hn : 0 < n) :
    Calls Tryz.prog 106 #[.slice a n cap, .bool first] w fun e w' => e = .returned (.tuple #[.int .i64 (axisB sh first), .int .i64 (axisN sh first), .int .i64 (axisA sh first)]) ∧ Below w.heap.size w w' := by
  have hlen := hide h.len
  have hsm := h.small
  have H := hide h
  have HS := hide hS
  clear h hS
  obtain ⟨t, ht⟩ : ∃ t, axisAt sh first = t := ⟨_, rfl⟩
  have htn : t < n := by rw [← ht]; unfold axisAt; rw [unhide hlen]; split <;> omega
  have HT := hide ht
  have HB : Hid (axisB sh first = partB sh t n) := by show _ = _; unfold axisB partB; rw [ht, Nat.min_eq_right (by omega)]
  have HA : Hid (axisA sh first = partA sh t n) := by show _ = _; unfold axisA partA; rw [ht, List.take_of_length_le (by rw [unhide hlen]; exact Nat.le_refl _)]
  have HN : Hid (axisN sh first = sh.getD t 0) := by show _ = _; unfold axisN; rw [ht]
  obtain ⟨bt, ot, hat, hltt, hct⟩ := (unhide H).get htn
  subst hat
  have hcell : Hid (∀ k, k < n → w.cell? ⟨bt, ot + k, none⟩ = some (.int .i64 (sh.getD k 0))) := by
    intro k hk
    obtain ⟨b', o', e', _, hc'⟩ := (unhide H).get hk
    cases e'
    exact hc'
  have hft : (first = true ∧ t = 0) ∨ (first = false ∧ (n : Int) - 1 = (t : Int)) := by
    have := unhide HT
    unfold axisAt at this
    rw [unhide hlen] at this
    cases first
    · exact .inr ⟨rfl, by simp at this; omega⟩
    · exact .inl ⟨rfl, by simp at this; omega⟩
  clear ht
  go_enter Tryz.func106, Tryz.ntmps106
  go_upto_if 14 with fail
  go_cut [7] (fun b wx => w = wx ∧ b = .int .i64 t)
  case first =>
    rcases hft with ⟨rfl, rfl⟩ | ⟨rfl, hnt⟩
    · go_wp2
      go_meet
      case rel => exact ⟨rfl, rfl⟩
    · go_wp2
      go_meet
      case rel => exact ⟨rfl, by rw [← hnt]⟩
  case rest =>
    obtain ⟨rfl, rfl⟩ := hcut
    clear hft
    go_wp2
    go_loop [8, 9, 10] (fun p q i => ∃ (k : Nat) (x y : Int), k ≤ n ∧ i = .int .i64 k ∧ p = .int .i64 x ∧ q = .int .i64 y ∧ Hid (partB sh t k = x) ∧ Hid (partA sh t k = y)) (fun _ _ i => n - (intOf i).toNat)
    case atStart => exact ⟨0, 1, 1, Nat.zero_le _, rfl, rfl, rfl, by show _ = _; simp [partB, prodAll], by show _ = _; simp [partA, prodAll]⟩
    case round =>
      obtain ⟨k, x, y, hk, rfl, rfl, rfl, hx, hy⟩ := hrel
      by_cases hlt : k < n
      · have hc := unhide hcell k hlt
        have hks : Hid (k < sh.length) := by show k < sh.length; rw [unhide hlen]; exact hlt
        obtain ⟨z, hz⟩ : ∃ z, z = sh.getD k 0 := ⟨_, rfl⟩
        rw [← hz] at hc
        have HZ := hide hz
        clear hz
        by_cases h1 : k < t
        · have HX : Hid (partB sh t (k + 1) = x * z) := by show _ = _; rw [partB_lt (unhide hks) h1, unhide hx, unhide HZ]
          have HY : Hid (partA sh t (k + 1) = y) := by show _ = _; rw [partA_le (by omega), unhide hy]
          have hb := partB_bd (unhide HS) t (k + 1)
          rw [unhide HX] at hb
          obtain ⟨hb0, hb1⟩ := hb
          go_wp2
          go_round
          case rel => exact ⟨k + 1, x * z, y, by omega, by go_num, rfl, rfl, HX, HY⟩
          case measure => simp [intOf]; omega
        · by_cases h2 : t < k
          · have HX : Hid (partB sh t (k + 1) = x) := by show _ = _; rw [partB_ge (by omega), unhide hx]
            have HY : Hid (partA sh t (k + 1) = y * z) := by show _ = _; rw [partA_gt (unhide hks) h2, unhide hy, unhide HZ]
            have hb := partA_bd (unhide HS) t (k + 1)
            rw [unhide HY] at hb
            obtain ⟨hb0, hb1⟩ := hb
            go_wp2
            go_round
            case rel => exact ⟨k + 1, x, y * z, by omega, by go_num, rfl, rfl, HX, HY⟩
            case measure => simp [intOf]; omega
          · have HX : Hid (partB sh t (k + 1) = x) := by show _ = _; rw [partB_ge (by omega), unhide hx]
            have HY : Hid (partA sh t (k + 1) = y) := by show _ = _; rw [partA_le (by omega), unhide hy]
            go_wp2
            go_round
            case rel => exact ⟨k + 1, x, y, by omega, by go_num, rfl, rfl, HX, HY⟩
            case measure => simp [intOf]; omega
      · have hkn : k = n := by omega
        subst hkn
        go_wp2
        go_quiet (fail)
        go_wp2
        refine bodyPost_ret (v := .tuple #[.int .i64 x, .int .i64 (sh.getD t 0), .int .i64 y]) (by simp [results, Tryz.results106, go_sem]) rfl ?_
        exact ⟨ret_three ((unhide HB).trans (unhide hx)).symm (unhide HN).symm ((unhide HA).trans (unhide hy)).symm, Below.drewN (Below.refl _ _) _⟩

theorem row_tail {w : World} {b off n : Nat} {zs : List Int} (h : Row w (some ⟨b, off, none⟩) n zs) (hn : 0 < n) : Row w (some ⟨b, off + 1, none⟩) (n - 1) (zs.drop 1) := by
  refine ⟨by rw [List.length_drop, h.len], by have := h.small; omega, ?_⟩
  rcases h.at_ with h0 | ⟨b', o', e, hlt, hc⟩
  · omega
  · cases e
    refine .inr ⟨b, off + 1, rfl, hlt, fun i hi => ?_⟩
    have := hc (i + 1) (by omega)
    rw [show off + 1 + i = off + (i + 1) by omega, this]
    simp [List.getD]

theorem row_head {w : World} {a : Option Addr} {n m : Nat} {zs : List Int} (h : Row w a n zs) (hm : m ≤ n) : Row w a m (zs.take m) := by
  refine ⟨by rw [List.length_take, h.len]; omega, by have := h.small; omega, ?_⟩
  rcases h.at_ with h0 | ⟨b', o', e, hlt, hc⟩
  · exact .inl (by omega)
  · refine .inr ⟨b', o', e, hlt, fun i hi => ?_⟩
    rw [hc i (by omega)]
    simp [List.getD, hi]

end Go.Proofs.YtgjpchnkodnieaaGreatDoor
