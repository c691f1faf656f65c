import Derived.Test.YtgjpchnkodnieaaGreatDoorMFit0
import Derived.Test.YtgjpchnkodnieaaGreatDoorSpecPlace
import Derived.Test.YtgjpchnkodnieaaGreatDoorSpecFill
import Derived.Test.YtgjpchnkodnieaaGreatDoorMFit0
import Derived.Deep.AppendLies
import Derived.Deep.RegionHeld3
import Derived.Deep.DeepCutAuto
namespace Go.Proofs.YtgjpchnkodnieaaGreatDoor
open Go.RowKit

/-- k elements have been gathered into the array in box p. -/
structure Stg (B : World) (p : Nat) (c : Bool) (v1 : Value) (f : Nat → Int × Int) (k : Nat) (wr : World) (g cap : Nat) : Prop where
  box : Box wr p c v1 (.slice (some ⟨g, 0, none⟩) k cap)
  owns : wr.ownsRow B.heap.size 3 1 (.slice (some ⟨g, 0, none⟩) k cap) k ((vals f k).map (Value.int .i64))
  low : Below B.heap.size B wr
  place : B.heap.size ≤ p

theorem Stg.start {B wx : World} {p g : Nat} {c : Bool} {v1 : Value} (f : Nat → Int × Int) (h1 : Box wx p c v1 (.slice (some ⟨g, 0, none⟩) 0 0)) (h2 : Blk wx g []) (h4 : Below B.heap.size B wx) (h7 : B.heap.size ≤ p) (h5 : B.heap.size ≤ g) : Stg B p c v1 f 0 wx g 0 :=
  ⟨h1, h2.owns h5, h4, h7⟩

theorem Stg.below {B wr w5 : World} {p g cap k : Nat} {c : Bool} {v1 : Value} {f : Nat → Int × Int} (h : Stg B p c v1 f k wr g cap) (hb : Below wr.heap.size wr w5) : Stg B p c v1 f k w5 g cap :=
  ⟨h.box.below (Nat.le_refl _) hb, owns_below h.owns (Nat.le_refl _) hb, h.low.trans (hb.mono h.low.size), h.place⟩

theorem Stg.push {B w5 w6 : World} {p g g' cap cap' k : Nat} {c : Bool} {v1 : Value} {f : Nat → Int × Int} {r1 : Int} (o : Obj) (h : Stg B p c v1 f k w5 g cap) (hf : (f k).1 = r1)
    (hown : w6.ownsRow B.heap.size 3 1 (.slice (some ⟨g', 0, none⟩) (k + 1) cap') (k + 1) ((vals f k).map (Value.int .i64) ++ [.int .i64 r1])) (hg : (w5.alloc o).grownBy w6 (Value.ownBlock (.slice (some ⟨g, 0, none⟩) k cap))) :
    Box w6 p c v1 (.slice (some ⟨g, 0, none⟩) k cap) ∧ Stg B p c v1 f (k + 1) (w6.setCell ⟨p, 2, none⟩ (.slice (some ⟨g', 0, none⟩) (k + 1) cap')) g' cap' := by
  have hb6 := h.box.grown h.owns o hg
  have hlow := h.low.trans (below_append o h.owns h.low.size hg)
  refine ⟨hb6, hb6.set2 _, ?_, hlow.setCell h.place _, h.place⟩
  rw [vals_snoc, hf]
  exact owns_box_set hown hb6 _ _

theorem four_boxes (w : World) (c : Bool) (v1 v2 z : Value) :
    let W := (((w.alloc (.cells #[.bool c, v1, v2] 25)).alloc (.cells #[.bool false, .slice none 0 0, .slice none 0 0] 25)).alloc (.cells #[] 3)).alloc (.cells #[.bool c, z, .slice (some ⟨w.heap.size + 1 + 1, 0, none⟩) 0 0] 25)
    Box W w.heap.size c v1 v2 ∧ Box W (w.heap.size + 1) false (.slice none 0 0) (.slice none 0 0) ∧ Blk W (w.heap.size + 1 + 1) [] ∧ Box W (w.heap.size + 1 + 1 + 1) c z (.slice (some ⟨w.heap.size + 1 + 1, 0, none⟩) 0 0) ∧ Below w.heap.size w W := by
  refine ⟨(((Box.new w c v1 v2).alloc _).alloc _).alloc _, ?_, ?_, ?_, ((((Below.refl _ _).alloc (Nat.le_refl _) _).alloc (by simp) _).alloc (by simp <;> omega) _).alloc (by simp <;> omega) _⟩
  · have := ((Box.new (w.alloc (.cells #[.bool c, v1, v2] 25)) false (.slice none 0 0) (.slice none 0 0)).alloc (.cells #[] 3)).alloc (.cells #[.bool c, z, .slice (some ⟨w.heap.size + 1 + 1, 0, none⟩) 0 0] 25)
    simpa using this
  · have := (Blk.new ((w.alloc (.cells #[.bool c, v1, v2] 25)).alloc (.cells #[.bool false, .slice none 0 0, .slice none 0 0] 25))).alloc (.cells #[.bool c, z, .slice (some ⟨w.heap.size + 1 + 1, 0, none⟩) 0 0] 25)
    simpa using this
  · have := Box.new (((w.alloc (.cells #[.bool c, v1, v2] 25)).alloc (.cells #[.bool false, .slice none 0 0, .slice none 0 0] 25)).alloc (.cells #[] 3)) c z (.slice (some ⟨w.heap.size + 1 + 1, 0, none⟩) 0 0)
    simpa using this

theorem Blk.drewN {w : World} {g : Nat} {zs : List Int} (h : Blk w g zs) (n : Nat) : Blk (w.drewN n) g zs := h

set_option maxRecDepth 20000 in
set_option maxHeartbeats 8000000 in
theorem l5Window_any (c : Bool) (a1 a2 s1 z1 : Option Addr) (n n2 m c1 c2 sc zc : Nat) (sh dt st zs : List Int) (w : World) (h1 : Row w a1 n sh) (h2 : Row w a2 n2 dt) (h3 : Row w s1 m st) (h4 : Row w z1 n zs) (hm : n ≤ m) (hok : arrOk c sh dt = true) (hz : shapeB zs = true) (hst : ∀ k, k < n → -1000000000000000 ≤ st.getD k 0 ∧ st.getD k 0 ≤ 1000000000000000) (N : Nat) (hN : countOf zs = (N : Int)) :
    Calls Tryz.prog 199 #[.agg #[.bool c, .slice a1 n c1, .slice a2 n2 c2], .slice s1 m sc, .slice z1 n zc] w fun e w' => ∃ g k, e = .returned (.agg #[.bool c, .slice z1 n zc, .slice (some ⟨g, 0, none⟩) N k]) ∧ Row w' (some ⟨g, 0, none⟩) N (vals (windowAt c sh dt st zs) N) ∧ Below w.heap.size w w' := by
  have hl1 := hide h1.len
  have hl2 := hide h2.len
  have hl4 := hide h4.len
  have hs1 := h1.small
  have hs2 := h2.small
  have hs3 := h3.small
  have H1 := hide h1
  have H2 := hide h2
  have H3 := hide h3
  have H4 := hide h4
  have HOK := hide hok
  have HZ := hide hz
  have HST := hide hst
  have HN := hide hN
  have hn5 : n ≤ 5 := by rw [← h1.len]; exact (shapeIn_of hok).2.2
  have hN4 : N ≤ 10000 := by have := (shapeB_count hz).2; omega
  obtain ⟨f, hf⟩ : ∃ f, f = windowAt c sh dt st zs := ⟨_, rfl⟩
  have HF := hide hf
  rw [← hf]
  clear h1 h2 h3 h4 hok hz hst hN hf
  obtain ⟨i0, hi, hz0, hz1, hz2⟩ := info_parts info_int
  go_enter Tryz.func199, Tryz.ntmps199
  obtain ⟨hB0, hB1, hK0, hP0, hBW⟩ := four_boxes w c (.slice a1 n c1) (.slice a2 n2 c2) (.slice z1 n zc)
  go_upto_region 2 with fail
  generalize (((w.alloc (.cells #[.bool c, .slice a1 n c1, .slice a2 n2 c2] 25)).alloc (.cells #[.bool false, .slice none 0 0, .slice none 0 0] 25)).alloc (.cells #[] 3)).alloc (.cells #[.bool c, .slice z1 n zc, .slice (some ⟨w.heap.size + 1 + 1, 0, none⟩) 0 0] 25) = W at *
  have HST0 := hide (Stg.start f hP0 hK0 hBW (by omega) (by omega))
  have HB0 := hide hB0
  have HB1 := hide hB1
  have HBW := hide hBW
  clear hB0 hB1 hK0 hP0 hBW
  go_wp2_with (go_at_call 48; refine (l3Count_eq _ _ _ zs _ ((unhide H4).below (Nat.le_refl _) (unhide HBW)) _ HN).mono ?_; rintro e wq ⟨rfl, rfl⟩)
  go_loopw [9] (fun i wr => ∃ P g cap, P ≤ N ∧ i = .int .i64 (P : Nat) ∧ Hid (Stg w (w.heap.size + 1 + 1 + 1) c (.slice z1 n zc) f P wr g cap) ∧ Hid (Box wr w.heap.size c (.slice a1 n c1) (.slice a2 n2 c2)) ∧ Hid (Box wr (w.heap.size + 1) false (.slice none 0 0) (.slice none 0 0))) (fun i _ => N - (intOf i).toNat)
  case atStart => exact ⟨0, _, 0, Nat.zero_le _, rfl, HST0, HB0, HB1⟩
  case round =>
    obtain ⟨wo, hwo⟩ : ∃ x, x = wr := ⟨_, rfl⟩
    subst hwo
    obtain ⟨P, g, cap, hP, rfl, hst, hb0, hb1⟩ := hrel
    clear HST0 HB0 HB1 HBW
    by_cases hlt : P < N
    · have HFU : Hid (Full zs) := full_of (shapeB_in (unhide HZ)).1 (by rw [prodAll_count zs (unhide HZ), unhide HN]; omega)
      obtain ⟨D, hD⟩ : ∃ D, D = digits zs (P : Nat) := ⟨_, rfl⟩
      have hDl : D.length = n := by rw [hD, digits_len]; exact unhide hl4
      obtain ⟨AX, hAX⟩ : ∃ A, A = addIx D st := ⟨_, rfl⟩
      have hAl : AX.length = n := by rw [hAX, addIx_len]; exact hDl
      have HFP : Hid (f P = if insideN sh AX sh.length = true then (dt.getD (place sh AX).toNat 0, 0) else (fillOf c, 0)) := by
        rw [unhide HF, hAX, hD]; rfl
      have HDI : Hid (IxIn zs D) := by rw [hD]; exact digits_in (unhide HFU) _
      have HAX := hide hAX
      have HDL := hide hDl
      have HAL := hide hAl
      have HLW := hide (unhide hst).low
      have hwz := (unhide hst).low.size
      clear hAX hDl hAl
      go_wp2_with (go_at_call 55; refine (l5Index_any z1 n zc zs (P : Nat) wo ((unhide H4).below (Nat.le_refl _) (unhide HLW)) (by omega) (fun k => ((shapeB_in (unhide HZ)).1.cell k).2) (unhide HFU) (by omega) (by omega)).mono ?_; rintro e w2 ⟨rfl, hK2, hb2⟩; rw [← hD] at hK2; have HK2 := hide hK2; have HB2 := hide hb2; clear hK2 hb2)
      obtain ⟨q, hq⟩ : ∃ q, wo.heap.size = q := ⟨_, rfl⟩
      rw [hq] at HK2 HB2 ⊢
      go_loopw [11, 12] (fun b i wx => ∃ k : Nat, k ≤ n ∧ i = .int .i64 (k : Nat) ∧ b = .bool (insideN sh AX k) ∧ Hid (Blk wx q (AX.take k ++ D.drop k)) ∧ Hid (Below q wo wx)) (fun _ i _ => n - (intOf i).toNat)
      case atStart => exact ⟨0, Nat.zero_le _, rfl, rfl, by simpa using HK2, HB2⟩
      case round =>
        obtain ⟨k, hk, rfl, rfl, hb, hbl⟩ := hrel
        clear HK2 HB2 w2
        have HLX := hide ((unhide HLW).trans ((unhide hbl).mono (by omega)))
        obtain ⟨x0, x1, x2, x3, x4, x5, x6⟩ := ((unhide hb0).below (by omega) (unhide hbl)).all
        by_cases hlk : k < n
        · have hkm : k < m := by omega
          obtain ⟨bz, oz, rfl, hbz, hcz⟩ := (unhide H3).get hkm
          have hcy := ((unhide HLX).cell (p := ⟨bz, oz + k, none⟩) hbz).trans hcz
          have hcx := (unhide hb).cell (i := k) (by rw [mix_len (by rw [unhide HAL, unhide HDL]) (by rw [unhide HDL]; exact hk), unhide HDL]; exact hlk)
          rw [mix_get (by rw [unhide HAL, unhide HDL]) (by rw [unhide HDL]; exact hlk)] at hcx
          have hfx := (unhide hb).free k
          have hsb := unhide HST k hlk
          have hxi := unhide HDI k (by rw [unhide hl4]; exact hlk)
          have hzc := ((shapeB_in (unhide HZ)).1.cell k).2
          have HAK : Hid (AX.getD k 0 = D.getD k 0 + st.getD k 0) := by rw [unhide HAX, addIx_get _ _ _ (by rw [unhide HDL]; exact hlk)]; exact rfl
          obtain ⟨x, hx⟩ : ∃ x, x = D.getD k 0 := ⟨_, rfl⟩
          obtain ⟨y, hy⟩ : ∃ y, y = st.getD k 0 := ⟨_, rfl⟩
          rw [← hx] at hcx hxi HAK
          rw [← hy] at hcy hsb HAK
          have hwr : IntKind.i64.wrap (x + y) = x + y := by rw [IntKind.wrap_i64]; omega
          clear hcz hx hy
          go_upto_region 11 with fail
          go_cut [] (fun wy => Blk wy q (AX.take (k + 1) ++ D.drop (k + 1)) ∧ Below q wo wy)
          case first =>
            as_aux_lemma =>
              go_region
              all_goals go_wp2_with fail
              all_goals go_meet
              all_goals case rel =>
                refine ⟨?_, ?_⟩
                · rw [← mix_set (by rw [unhide HAL, unhide HDL]) (by rw [unhide HDL]; exact hlk), unhide HAK]
                  exact (unhide hb).drew.set k _
                · repeat (first | exact unhide hbl | refine Below.drew ?_ | refine Below.setCell ?_ (by exact Nat.le_refl _) _)
          case rest =>
            obtain ⟨w3, hw3⟩ : ∃ x, x = wc := ⟨_, rfl⟩
            subst hw3
            obtain ⟨hb', hbl'⟩ := hcut
            have HB' := hide hb'
            have HBL' := hide hbl'
            have HLY := hide ((unhide HLW).trans (hbl'.mono (by omega)))
            obtain ⟨bs, os, rfl, hbs, hcs⟩ := (unhide H1).get hlk
            have hcs' := ((unhide HLY).cell (p := ⟨bs, os + k, none⟩) hbs).trans hcs
            have hcz := hb'.cell (i := k) (by rw [mix_len (by rw [unhide HAL, unhide HDL]) (by rw [unhide HDL]; omega), unhide HDL]; exact hlk)
            have e9 : (AX.take (k + 1) ++ D.drop (k + 1)).getD k 0 = x + y := by rw [← unhide HAK]; exact mix_got (by rw [unhide HAL]; exact hlk)
            rw [e9] at hcz
            obtain ⟨s, hse⟩ : ∃ s, s = sh.getD k 0 := ⟨_, rfl⟩
            rw [← hse] at hcs'
            have HIN : Hid (insideN sh AX (k + 1) = (insideN sh AX k && (decide (0 ≤ x + y) && decide (x + y < s)))) := by rw [← unhide HAK, hse]; exact rfl
            obtain ⟨x0, x1, x2, x3, x4, x5, x6⟩ := ((unhide hb0).below (by omega) hbl').all
            obtain ⟨ib, hib⟩ : ∃ b, b = insideN sh AX k := ⟨_, rfl⟩
            rw [← hib] at HIN ⊢
            obtain ⟨z, hz⟩ : ∃ z, z = x + y := ⟨_, rfl⟩
            rw [← hz] at HIN hcz
            clear hb' hbl' hcs e9 hse hib hcx hcy hfx hwr hz hxi hsb HAK hbz hb hbl HLX
            cases ib with
            | false =>
              go_wp2_with fail
              go_quiet (fail)
              go_wp2_with fail
              go_roundw
              case rel => exact ⟨k + 1, by omega, by go_num, by rw [unhide HIN]; rfl, Blk.drewN (unhide HB') nq, Below.drewN (unhide HBL') nq⟩
              case measure => simp [intOf]; omega
            | true =>
              by_cases hz0 : 0 ≤ z
              · have g1 : decide (0 ≤ z) = true := decide_eq_true hz0
                by_cases hzs : z < s
                · have HIV : Hid (insideN sh AX (k + 1) = true) := by rw [unhide HIN]; show (true && (decide (0 ≤ z) && decide (z < s))) = true; rw [decide_eq_true hz0, decide_eq_true hzs]; rfl
                  go_wp2_with fail
                  go_quiet (fail)
                  go_wp2_with fail
                  go_roundw
                  case rel => exact ⟨k + 1, by omega, by go_num, by rw [unhide HIV], Blk.drewN (unhide HB') nq, Below.drewN (unhide HBL') nq⟩
                  case measure => simp [intOf]; omega
                · have HIV : Hid (insideN sh AX (k + 1) = false) := by rw [unhide HIN]; show (true && (decide (0 ≤ z) && decide (z < s))) = false; rw [decide_eq_true hz0, decide_eq_false hzs]; rfl
                  go_wp2_with fail
                  go_quiet (fail)
                  go_wp2_with fail
                  go_roundw
                  case rel => exact ⟨k + 1, by omega, by go_num, by rw [unhide HIV, decide_eq_false (by omega)], Blk.drewN (unhide HB') nq, Below.drewN (unhide HBL') nq⟩
                  case measure => simp [intOf]; omega
              · have HIV : Hid (insideN sh AX (k + 1) = false) := by rw [unhide HIN]; show (true && (decide (0 ≤ z) && decide (z < s))) = false; rw [decide_eq_false hz0]; rfl
                have g1 : decide (0 ≤ z) = false := decide_eq_false hz0
                have g2 : z < 0 := by omega
                go_wp2_with fail
                go_quiet (fail)
                go_wp2_with fail
                go_roundw
                case rel => exact ⟨k + 1, by omega, by go_num, by rw [unhide HIV], Blk.drewN (unhide HB') nq, Below.drewN (unhide HBL') nq⟩
                case measure => simp [intOf]; omega
        · have hkn : k = n := by omega
          subst hkn
          have HST2 := hide ((unhide hst).below (by rw [hq]; exact unhide hbl))
          have HC0 := hide ((unhide hb0).below (by omega) (unhide hbl))
          have HC1 := hide ((unhide hb1).below (by omega) (unhide hbl))
          have HAB : Hid (Blk wr q AX) := by
            have := unhide hb
            rwa [List.take_of_length_le (by rw [unhide HAL]; exact Nat.le_refl _), List.drop_of_length_le (by rw [unhide HDL]; exact Nat.le_refl _), List.append_nil] at this
          clear hst hb0 hb1 hb hbl HLW
          obtain ⟨ib, hib⟩ : ∃ b, insideN sh AX k = b := ⟨_, rfl⟩
          rw [hib]
          have HIB : Hid (insideN sh AX sh.length = ib) := by rw [unhide hl1]; exact hib
          clear hib
          cases ib with
          | false =>
            obtain ⟨r1, hr1⟩ : ∃ r, r = fillOf c := ⟨_, rfl⟩
            have HR : Hid ((f P).1 = r1) := by rw [unhide HFP, if_neg (by rw [unhide HIB]; simp), hr1]; exact rfl
            have hcall := l3Fill_any c wr
            rw [← hr1] at hcall
            clear hr1
            go_upto_region 16 with (go_at_call 74; refine hcall.mono ?_; rintro e w4 ⟨rfl, hw⟩; obtain rfl := hw.symm)
            clear hcall x0 x1 x2 x3 x4 x5 x6
            have hS := unhide HST2
            have hown := hS.owns
            have hlow := hS.low.size
            obtain ⟨y0, y1, y2, y3, y4, y5, y6⟩ := hS.box.all
            go_wp2_with (at_builtin; refine wpList_append_lies _ rfl _ _ 23 rfl w.heap.size 3 i0 (.int .i64 0) 1 8 Tryz.underlying23 hi hz0 hz1 hz2 rfl (by decide) _ _ _ rfl (hown.alloc _) ⟨wr.heap.size, 0, none⟩ 1 1 [.int .i64 r1] rfl rfl (cells_new _ _) (one_one _) (by omega) (by unfold maxLen; omega) (by omega) (by simp; omega) (wr.heap.size + 1) (by simp) ?_; intro g' cap' w7 hown' hgrow hat hlt7; obtain ⟨hb7, hst7⟩ := hS.push _ (unhide HR) hown' hgrow; have hc0 := (unhide HC0).grown hown _ hgrow; have hc1 := (unhide HC1).grown hown _ hgrow; obtain ⟨z0', z1', z2', z3', z4', z5', z6'⟩ := hb7.all; clear hgrow hat hown')
            go_roundw
            case rel => exact ⟨P + 1, g', cap', by omega, by go_num, hst7, hc0.other (by simp; omega) _, hc1.other (by simp) _⟩
            case measure => simp [intOf]; omega
          | true =>
            have hin := inside_in (unhide HIB)
            have hpb := place_bd hin
            obtain ⟨hsin, hpl, _⟩ := shapeIn_of (unhide HOK)
            rw [hpl, unhide hl2] at hpb
            obtain ⟨j, hj⟩ : ∃ j : Nat, place sh AX = (j : Int) := ⟨(place sh AX).toNat, by omega⟩
            have hjl : j < n2 := by omega
            obtain ⟨bd, od, rfl, hbd, hcd⟩ := (unhide H2).get hjl
            have hcd' := ((unhide HLX).cell (p := ⟨bd, od + j, none⟩) hbd).trans hcd
            obtain ⟨r1, hr1⟩ : ∃ r, r = dt.getD j 0 := ⟨_, rfl⟩
            rw [← hr1] at hcd'
            have HR : Hid ((f P).1 = r1) := by rw [unhide HFP, if_pos (unhide HIB), hr1, hj]; exact rfl
            have hbdl : bd < wr.heap.size := Nat.lt_of_lt_of_le hbd (unhide HLX).size
            have hcall := l3Fill_any c wr
            have HCA : Hid (∀ wy, Below wr.heap.size wr wy → Calls Tryz.prog 56 #[.slice a1 k c1, .slice (some ⟨q, 0, none⟩) k k] wy fun e w' => e = .returned (.int .i64 (j : Nat)) ∧ Below wy.heap.size wy w') := by
              intro wy hwy
              rw [← hj]
              exact l5At_any a1 _ k c1 k k sh AX wy (((unhide H1).below (Nat.le_refl _) (unhide HLX)).below (Nat.le_refl _) hwy) (((unhide HAB).below (Nat.le_refl _) hwy).row (unhide HAL) (by omega)) (Nat.le_refl _) hsin hin
            clear hin hpb hsin hpl hj hr1 hcd
            go_upto_region 15 with (go_at_call 74; refine hcall.mono ?_; rintro e w4 ⟨rfl, hw⟩; obtain rfl := hw.symm)
            clear hcall
            go_cut [13] (fun v wy => v = .int .i64 r1 ∧ Below wr.heap.size wr wy)
            case first =>
              as_aux_lemma =>
                have HKEEP : ∀ wy, Below wr.heap.size wr wy → Below wr.heap.size wr wy ∧ wy.cell? ⟨w.heap.size, 1, none⟩ = some (.slice a1 k c1) ∧ wy.cell? ⟨w.heap.size, 2, none⟩ = some (.slice (some ⟨bd, od, none⟩) n2 c2) ∧ wy.cell? ⟨bd, od + j, none⟩ = some (.int .i64 r1) := fun wy hwy => ⟨hwy, ((unhide HC0).below (Nat.le_refl _) hwy).cells.2.1, ((unhide HC0).below (Nat.le_refl _) hwy).cells.2.2, (hwy.cell (p := ⟨bd, od + j, none⟩) hbdl).trans hcd'⟩
                go_region_held3 (fun wy => Below wr.heap.size wr wy ∧ wy.cell? ⟨w.heap.size, 1, none⟩ = some (.slice a1 k c1) ∧ wy.cell? ⟨w.heap.size, 2, none⟩ = some (.slice (some ⟨bd, od, none⟩) n2 c2) ∧ wy.cell? ⟨bd, od + j, none⟩ = some (.int .i64 r1)) (first | exact HKEEP _ hKA | exact HKEEP _ (Below.refl _ _).drew | exact HKEEP _ (Below.refl _ _)) (first | (go_at_call 56; refine (unhide HCA _ (by exact (Below.refl _ _).drew)).mono ?_; rintro e wA ⟨rfl, hbA⟩; have hKA : Below wr.heap.size wr wA := (Below.refl _ _).drew.trans (hbA.mono (by simp))))
                all_goals go_wp2_with fail
                all_goals go_meet
                all_goals case rel => exact ⟨rfl, hKA⟩
            case rest =>
              obtain ⟨w5, hw5⟩ : ∃ x, x = wc := ⟨_, rfl⟩
              subst hw5
              obtain ⟨rfl, hb5⟩ := hcut
              have HST3 := hide ((unhide HST2).below hb5)
              have HD0 := hide ((unhide HC0).below (Nat.le_refl _) hb5)
              have HD1 := hide ((unhide HC1).below (Nat.le_refl _) hb5)
              clear hb5 HCA HST2 HC0 HC1 HAB x0 x1 x2 x3 x4 x5 x6 hcd'
              have hS := unhide HST3
              have hown := hS.owns
              have hlow := hS.low.size
              obtain ⟨y0, y1, y2, y3, y4, y5, y6⟩ := hS.box.all
              go_wp2_with (at_builtin; refine wpList_append_lies _ rfl _ _ 23 rfl w.heap.size 3 i0 (.int .i64 0) 1 8 Tryz.underlying23 hi hz0 hz1 hz2 rfl (by decide) _ _ _ rfl (hown.alloc _) ⟨w5.heap.size, 0, none⟩ 1 1 [.int .i64 r1] rfl rfl (cells_new _ _) (one_one _) (by omega) (by unfold maxLen; omega) (by omega) (by simp; omega) (w5.heap.size + 1) (by simp) ?_; intro g' cap' w7 hown' hgrow hat hlt7; obtain ⟨hb7, hst7⟩ := hS.push _ (unhide HR) hown' hgrow; have hc0 := (unhide HD0).grown hown _ hgrow; have hc1 := (unhide HD1).grown hown _ hgrow; obtain ⟨z0', z1', z2', z3', z4', z5', z6'⟩ := hb7.all; clear hgrow hat hown')
              go_roundw
              case rel => exact ⟨P + 1, g', cap', by omega, by go_num, hst7, hc0.other (by simp; omega) _, hc1.other (by simp) _⟩
              case measure => simp [intOf]; omega
    · have hPN : P = N := by omega
      subst hPN
      obtain ⟨x0, x1, x2, x3, x4, x5, x6⟩ := (unhide hb1).all
      obtain ⟨y0, y1, y2, y3, y4, y5, y6⟩ := (unhide hst).box.all
      have HLW := hide (unhide hst).low
      obtain ⟨ad', cd, hv, hD⟩ := Own.of_owns (unhide hst).owns (by omega)
      cases hv
      have HD := hide hD
      have HBB := hide (unhide hb1)
      clear hst hb0 hb1 hD
      go_wp2
      refine bodyPost_ret (v := .agg #[.bool c, .slice z1 n zc, .slice (some ⟨g, 0, none⟩) P cap]) (by simp [results, Tryz.results199, go_sem, x0, x1, x2]) rfl ?_
      exact ⟨g, cap, rfl, (unhide HD).row.sets (unhide HBB) _ _ _, (((unhide HLW).setCell (by simp) _).setCell (by simp) _).setCell (by simp) _⟩

end Go.Proofs.YtgjpchnkodnieaaGreatDoor
