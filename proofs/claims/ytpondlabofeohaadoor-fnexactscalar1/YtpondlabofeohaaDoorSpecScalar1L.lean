import Derived.Test.YtpondlabofeohaaDoorSpecScalar1W
namespace Go.Proofs.YtpondlabofeohaaDoor
open Go.RowKit

def oneGood (op : Int) (dt : List Int) : Bool := dt.all fun v => decide ((oneOf op v).2 = 0)

theorem scalar1_eq (op : Int) (sh dt : List Int) (h1 : arrOk false sh dt = true) (h2 : oneOp op = true) (h3 : oneGood op dt = true) : scalar1 op false sh dt = ⟨false, sh, dt.map fun v => (oneOf op v).1, 0⟩ := by
  unfold scalar1; rw [if_pos ⟨h1, h2, rfl, h3⟩]

theorem scalar1_no (op : Int) (sh dt : List Int) (h3 : oneGood op dt = false) : scalar1 op false sh dt = noAns 3 := by
  unfold scalar1; rw [if_neg]; intro h; unfold oneGood at h3; rw [h.2.2.2] at h3; cases h3

theorem code_3 {op v : Int} (h : (oneOf op v).2 ≠ 0) : (oneOf op v).2 = 3 := by
  unfold oneOf at h ⊢
  repeat' split
  all_goals simp_all

theorem one_bd {op v : Int} (hv : -1000000000000000 ≤ v ∧ v ≤ 1000000000000000) : -1000000000000000 ≤ (oneOf op v).1 ∧ (oneOf op v).1 ≤ 1000000000000000 := by
  have := truth_bd (decide (0 < v)); have := truth_bd (decide (v < 0))
  unfold oneOf
  repeat' split
  all_goals simp only []
  all_goals omega

theorem l4One_eq (op v : Int) (w : World) (hv : -1000000000000000 ≤ v ∧ v ≤ 1000000000000000) (r1 r2 : Int) (hr : Hid (oneOf op v = (r1, r2))) : Calls Tryd.prog 27 #[.int .i64 op, .int .i64 v] w fun e w' => e = .returned (.tuple #[.int .i64 r1, .int .i64 r2]) ∧ w' = w := by
  have := l4One_any op v w hv
  rw [unhide hr] at this
  exact this

set_option maxRecDepth 20000 in
set_option maxHeartbeats 4000000 in
theorem Scalar1_good (op : Int) (a1 a2 : Addr) (n1 n2 c1 c2 : Nat) (sh dt : List Int) (w : World) (h1 : Row w (some a1) n1 sh) (h2 : Row w (some a2) n2 dt) (hok : arrOk false sh dt = true) (hop : oneOp op = true) :
    Calls Tryd.prog 9 #[.int .i64 op, .agg #[.bool false, .slice (some a1) n1 c1, .slice (some a2) n2 c2]] w (GivesRow w (scalar1 op false sh dt)) := by
  have HV : Hid (∀ k, k < dt.length → -1000000000000000 ≤ dt.getD k 0 ∧ dt.getD k 0 ≤ 1000000000000000) := fun k hk => dataOk_bd hok hk
  have HR := hide hok
  have HOP := hide hop
  have hl2 := hide h2.len
  have hs2 := h2.small
  have H1 := hide h1
  have H2 := hide h2
  clear h1 h2 hok
  obtain ⟨i0, hi, hz0, hz1, hz2⟩ := info_parts info_int
  have hop' : op = 1 ∨ op = 2 ∨ op = 3 ∨ op = 7 ∨ op = 17 := by simpa [oneOp] using hop
  clear hop
  obtain ⟨o, ho⟩ : ∃ o, o = op := ⟨_, rfl⟩
  rw [← ho] at HOP
  have HGV : GivesRow w (scalar1 op false sh dt) = GivesRow w (scalar1 o false sh dt) := by rw [ho]
  rw [HGV]
  clear HGV
  have HOE := hide ho
  clear ho
  rcases hop' with rfl | rfl | rfl | rfl | rfl
  all_goals
    go_enter Tryd.func9, Tryd.ntmps9
    go_wp2_with fail
    refine (ArrayOk_eq _ _ _ _ _ _ _ sh dt _ (((unhide H1).alloc _).alloc _) (((unhide H2).alloc _).alloc _) _ HR).mono ?_
    rintro e w1 ⟨rfl, hb1⟩
    obtain ⟨B3, B4, hB1⟩ := boxes2 hb1
    have hy1 := B4.lt
    obtain ⟨x0, x1, x2, x3, x4, x5, x6⟩ := B3.all
    clear hb1
    go_wp2_with fail
    refine (l3Ints_any _ _ _ sh _ (by exact (unhide H1).below (Nat.le_refl _) hB1)).mono ?_
    rintro e w2 ⟨ash, csh, rfl, hO, hb2⟩
    have HB3 := hide (B3.below (Nat.le_refl _) hb2)
    have HB4 := hide (B4.below (Nat.le_refl _) hb2)
    have HB2 := hide (hB1.trans (hb2.mono (by omega)))
    have HO := hide (hO.mono (B' := w.heap.size) (by omega))
    have HOl : Hid (∀ k, At ash n1 k → k < w2.heap.size) := fun k hk => hO.row.hi hk
    have HOp : Hid (∀ k, At ash n1 k → k ≠ w.heap.size + 1) := fun k hk => by have := hO.low hk; omega
    have hy2 := (unhide HB4).lt
    clear hb2 hB1 B3 B4 hy1 x0 x1 x2 x3 x4 x5 x6 hO w1
    go_wp2_with fail
    go_loopw [7] (fun i wr => ∃ (k : Nat) (v : Value), k ≤ n2 ∧ i = .int .i64 k ∧ Box wr (w2.heap.size + 1) false (.slice ash n1 csh) v ∧ wr.ownsRow w2.heap.size 3 1 v k (((dt.take k).map fun x => (oneOf o x).1).map (Value.int .i64)) ∧ Below w2.heap.size w2 wr ∧ oneGood o (dt.take k) = true) (fun i _ => n2 - (intOf i).toNat)
    case atStart =>
      refine ⟨0, .slice (some ⟨w2.heap.size, 0, none⟩) 0 0, Nat.zero_le _, rfl, ?_, ?_, ((Below.refl _ _).alloc (Nat.le_refl _) _).alloc (by simp) _, rfl⟩
      · have := Box.new (w2.alloc (.cells #[] 3)) false (.slice ash n1 csh) (.slice (some ⟨w2.heap.size, 0, none⟩) 0 0)
        simpa using this
      · exact (owns_empty w2).alloc _
    case round =>
      obtain ⟨k, v, hk, rfl, hbx, hown, hbl, hgood⟩ := hrel
      have HW := hide ((unhide HB2).trans (hbl.mono (by omega)))
      obtain ⟨y0, y1, y2, y3, y4, y5, y6⟩ := hbx.all
      obtain ⟨z0, z1, z2, z3, z4, z5, z6⟩ := ((unhide HB3).low (by omega) hbl).all
      have B4' := hide ((unhide HB4).low hy2 hbl)
      have HO' := hide ((unhide HO).low' (unhide HOl) hbl)
      have hwr : w2.heap.size ≤ wr.heap.size := hbl.size
      by_cases hlt : k < n2
      · obtain ⟨b, off, hab, hblt, hc⟩ := (unhide H2).get hlt
        cases hab
        have hc' := ((unhide HW).cell (p := ⟨b, off + k, none⟩) hblt).trans hc
        have hkl : k < dt.length := by rw [unhide hl2]; exact hlt
        obtain ⟨x, hx⟩ : ∃ x, x = dt.getD k 0 := ⟨_, rfl⟩
        have hxb := unhide HV k hkl
        rw [← hx] at hc' hxb
        have HX := hide hx
        have HKL := hide hkl
        obtain ⟨r, hr⟩ : ∃ r, oneOf o x = r := ⟨_, rfl⟩
        obtain ⟨r1, r2⟩ := r
        have HRR := hide hr
        have HRO : Hid (oneOf _ x = (r1, r2)) := (unhide HOE) ▸ hr
        clear hc hx hkl hr
        by_cases hcode : r2 = 0
        · subst hcode
          have HBX := hide hbx
          have HBL := hide hbl
          have HG := hide hgood
          clear hbx hbl hgood
          go_wp2_with (first
            | (go_at_call 27; refine (l4One_eq _ _ _ hxb _ _ HRO).mono ?_; rintro e wr ⟨rfl, rfl⟩)
            | (at_builtin; refine wpList_append_own _ rfl _ _ 22 rfl w2.heap.size 3 i0 (.int .i64 0) 1 8 Tryd.underlying22 hi hz0 hz1 hz2 rfl (by decide) _ _ _ rfl (hown.alloc _) ⟨wr.heap.size, 0, none⟩ 1 1 [.int .i64 r1] rfl rfl (cells_new _ _) (one_one _) (by unfold maxLen; omega) (by omega) (by simp; omega) ?_; intro v1 w3 hown' hgrow hnil; clear hnil; obtain ⟨av, cv, rfl⟩ := owns_slice hown'; have HB := hide (below_append _ hown hwr hgrow); have HX6 := hide ((unhide HBX).grown hown _ hgrow); obtain ⟨y0', y1', y2', y3', y4', y5', y6'⟩ := (unhide HX6).all; clear hgrow))
          have HN : Hid (w3.ownsRow w2.heap.size 3 1 (.slice av (k + 1) cv) (k + 1) (((dt.take (k + 1)).map fun x => (oneOf o x).1).map (Value.int .i64))) := by
            show w3.ownsRow _ _ _ _ _ _
            rw [take_map_snoc _ _ _ (unhide HKL), ← unhide HX, unhide HRR]
            exact hown'
          go_roundw
          case rel => exact ⟨k + 1, .slice av (k + 1) cv, by omega, by go_num, (unhide HX6).set2 _, owns_box_set (unhide HN) (unhide HX6) _ _, ((unhide HBL).trans (unhide HB)).setCell (by simp) _, all_step _ _ _ (unhide HKL) (unhide HG) (by rw [← unhide HX, unhide HRR]; rfl)⟩
          case measure => simp [intOf]; omega
        · have h3 : r2 = 3 := by have := code_3 (op := o) (v := x) (by rw [unhide HRR]; exact hcode); rw [unhide HRR] at this; exact this
          subst h3
          have HS : Hid (scalar1 o false sh dt = noAns 3) := scalar1_no o sh dt (all_not _ _ k (unhide HKL) (by rw [← unhide HX, unhide HRR]; rfl))
          clear hcode hbx hgood hown
          go_wp2_with (go_at_call 27; refine (l4One_eq _ _ _ hxb _ _ HRO).mono ?_; rintro e wr ⟨rfl, rfl⟩)
          refine (l4None_any _).mono ?_
          rintro e w4 ⟨rfl, hb4⟩
          obtain ⟨q0, q1, q2, q3, q4, q5, q6⟩ := ((unhide B4').below (Nat.le_refl _) hb4).all
          have hB4 := hide ((unhide HW).trans (hb4.mono (by omega)))
          clear hb4 HW HB2 HB3 HB4 B4' HO HO' y0 y1 y2 y3 y4 y5 y6 z0 z1 z2 z3 z4 z5 z6
          go_wp2
          refine bodyPost_ret (v := .tuple #[.agg #[.bool false, .slice none 0 0, .slice none 0 0], .int .i64 3]) (by simp [results, Tryd.results9, go_sem, q0, q1, q2]) rfl ?_
          rw [unhide HS]
          exact ⟨none, 0, 0, none, 0, 0, rfl, row_nil _ _, row_nil _ _, (((unhide hB4).setCell (by simp) _).setCell (by simp) _).setCell (by simp) _⟩
      · have hkn : k = n2 := by omega
        subst hkn
        have ht : dt.take k = dt := List.take_of_length_le (by rw [unhide hl2]; exact Nat.le_refl _)
        rw [ht] at hown hgood
        have HS := hide (scalar1_eq o sh dt (unhide HR) (unhide HOP) hgood)
        obtain ⟨ad, cd, rfl, hD⟩ := Own.of_owns hown hs2
        have HD := hide hD
        clear hown hgood ht hD hbx hbl
        obtain ⟨q0, q1, q2, q3, q4, q5, q6⟩ := (unhide B4').all
        go_wp2
        refine bodyPost_ret (v := .tuple #[.agg #[.bool false, .slice ash n1 csh, .slice ad k cd], .int .i64 0]) (by simp [results, Tryd.results9, go_sem, q0, q1, q2]) rfl ?_
        rw [unhide HS]
        refine ⟨ash, n1, csh, ad, k, cd, rfl, ?_, ?_, (((unhide HW).setCell (by simp) _).setCell (by simp) _).setCell (by simp) _⟩
        · exact ((((unhide HO').other (unhide HOp) _).other (unhide HOp) _).other (unhide HOp) _).row
        · have hp : ∀ x, At ad k x → x ≠ w.heap.size + 1 := fun x hx => by have := (unhide HD).low hx; omega
          exact ((((unhide HD).other hp _).other hp _).other hp _).row

theorem Scalar1_any (op : Int) (c : Bool) (a1 a2 : Addr) (n1 n2 c1 c2 : Nat) (sh dt : List Int) (w : World) (h1 : Row w (some a1) n1 sh) (h2 : Row w (some a2) n2 dt) :
    Calls Tryd.prog 9 #[.int .i64 op, .agg #[.bool c, .slice (some a1) n1 c1, .slice (some a2) n2 c2]] w (GivesRow w (scalar1 op c sh dt)) := by
  by_cases hb : arrOk c sh dt = true ∧ oneOp op = true ∧ c = false
  · obtain ⟨h3, h4, rfl⟩ := hb
    exact Scalar1_good op a1 a2 n1 n2 c1 c2 sh dt w h1 h2 h3 h4
  · exact Scalar1_bad op c a1 a2 n1 n2 c1 c2 sh dt w h1 h2 hb

end Go.Proofs.YtpondlabofeohaaDoor
