import Derived.Test.YtgjpchnkodnieaaGreatDoorSpecGradeS
import Derived.Test.YtgjpchnkodnieaaGreatDoorSpecMerge
import Derived.Test.YtgjpchnkodnieaaGreatDoorMFit0
import Derived.Test.YtgjpchnkodnieaaGreatDoorMFit0
import Derived.Deep.DeepCutAuto
import Derived.BigRegion
import Derived.BigQuiet
namespace Go.Proofs.YtgjpchnkodnieaaGreatDoor
open Go.RowKit

/-- How long the list is whose slice lies in field 2 of box p. -/
def boxLen (w : World) (p : Nat) : Nat := match w.cell? ⟨p, 2, none⟩ with | some (.slice _ n _) => n | _ => 0

theorem SelS.boxLen {w2 wr : World} {p m csh gs g k cap : Nat} {ash : Option Addr} {zs O : List Int} {bs : List Bool} (h : SelS w2 p ash m csh zs gs bs O k wr g cap) : boxLen wr p = k := by
  unfold Go.Proofs.YtgjpchnkodnieaaGreatDoor.boxLen
  rw [h.box.all.2.2.1]

set_option maxRecDepth 20000 in
set_option maxHeartbeats 8000000 in
theorem Grade_any (c fl : Bool) (a1 a2 : Addr) (n1 n2 c1 c2 : Nat) (sh dt : List Int) (w : World) (h1 : Row w (some a1) n1 sh) (h2 : Row w (some a2) n2 dt) :
    Calls Tryz.prog 75 #[.agg #[.bool c, .slice (some a1) n1 c1, .slice (some a2) n2 c2], .bool fl] w (GivesRow w (gradeA c sh dt fl)) := by
  have hl1 := hide h1.len
  have hl2 := hide h2.len
  have hs1 := h1.small
  have hs2 := h2.small
  have H1 := hide h1
  have H2 := hide h2
  clear h1 h2
  obtain ⟨r1, hr1⟩ : ∃ r, arrOk c sh dt = r := ⟨_, rfl⟩
  have HR1 := hide hr1
  clear hr1
  go_enter Tryz.func75, Tryz.ntmps75
  go_wp2_with fail
  refine (ArrayOk_eq _ _ _ _ _ _ _ sh dt _ (((unhide H1).alloc _).alloc _) (((unhide H2).alloc _).alloc _) _ HR1).mono ?_
  rintro e w1 ⟨rfl, hb1⟩
  obtain ⟨B4, B6, hB1⟩ := boxes2 hb1
  have C4 := hide B4
  have C6 := hide B6
  have HB1 := hide hB1
  clear hb1 B4 B6 hB1
  cases r1 with
  | false =>
    have HS := hide (grade_bad (down := fl) (unhide HR1))
    go_wp2_with fail
    refine (l4None_any _).mono ?_
    rintro e w9 ⟨rfl, hb9⟩
    obtain ⟨q0, q1, q2, q3, q4, q5, q6⟩ := ((unhide C6).below (Nat.le_refl _) hb9).all
    have hB9 := hide (((unhide HB1)).trans (hb9.mono ((unhide HB1)).size))
    clear hb9 C4 C6 HB1
    go_wp2
    refine bodyPost_ret (v := .tuple #[.agg #[.bool false, .slice none 0 0, .slice none 0 0], .int .i64 3]) (by simp [results, Tryz.results75, go_sem, q0, q1, q2]) rfl ?_
    rw [unhide HS]
    exact ⟨none, 0, 0, none, 0, 0, rfl, row_nil _ _, row_nil _ _, (((unhide hB9).setCell (by simp <;> omega) _).setCell (by simp <;> omega) _).setCell (by simp <;> omega) _⟩
  | true =>
    obtain ⟨x0, x1, x2, x3, x4, x5, x6⟩ := (unhide C4).all
    by_cases hn1 : n1 = 1
    case neg =>
      have g1 : ((n1 : Int) != 1) = true := by simp; omega
      have HS := hide (grade_rank (down := fl) (unhide HR1) (by rw [unhide hl1]; exact hn1))
      clear hn1
      go_wp2_with fail
      refine (l4None_any _).mono ?_
      rintro e w9 ⟨rfl, hb9⟩
      obtain ⟨q0, q1, q2, q3, q4, q5, q6⟩ := ((unhide C6).below (Nat.le_refl _) hb9).all
      have hB9 := hide (((unhide HB1)).trans (hb9.mono ((unhide HB1)).size))
      clear hb9 C4 C6 HB1 x0 x1 x2 x3 x4 x5 x6
      go_wp2
      refine bodyPost_ret (v := .tuple #[.agg #[.bool false, .slice none 0 0, .slice none 0 0], .int .i64 4]) (by simp [results, Tryz.results75, go_sem, q0, q1, q2]) rfl ?_
      rw [unhide HS]
      exact ⟨none, 0, 0, none, 0, 0, rfl, row_nil _ _, row_nil _ _, (((unhide hB9).setCell (by simp <;> omega) _).setCell (by simp <;> omega) _).setCell (by simp <;> omega) _⟩
    have g1 : ((n1 : Int) != 1) = false := by simp [hn1]
    have HN1 := hide hn1
    have hn2 : n2 ≤ 10000 := by
      have e := arr_parts (unhide HR1)
      have e1 := prodAll_bd sh e.1 sh.length
      rw [List.take_length, prodAll_count sh e.1, e.2] at e1
      have := unhide hl2
      omega
    clear hn1
    obtain ⟨i0, hi, hz0, hz1, hz2⟩ := info_parts info_int
    go_wp2_with fail
    refine (l3Ints_any _ _ _ sh _ ((unhide H1).below (Nat.le_refl _) (unhide HB1))).mono ?_
    rintro e w3 ⟨ash, csh, rfl, hOJ, hb3⟩
    have hlaid := laid_cbz (c := false) (csh := csh) hOJ hb3
    obtain ⟨p, g0, ash', csh', e1, hbx, hblk, hO, hb4, hp, hg, hne⟩ := hlaid
    have hpe : p = w3.heap.size + 1 := by simpa using e1.symm
    subst hpe
    have hz31 := hb3.size
    have D4 := hide ((unhide C4).below (Nat.le_refl _) hb3)
    have D6 := hide ((unhide C6).below (Nat.le_refl _) hb3)
    have HB3 := hide ((unhide HB1).trans (hb3.mono (unhide HB1).size))
    have hz4 := (unhide D4).lt
    have hz6 := (unhide D6).lt
    have hz61 := (unhide C6).lt
    have HBX := hide hbx
    have HBK := hide hblk
    have HO := hide hO
    have HB4 := hide hb4
    have HNE := hide hne
    have HGE := hide hg
    clear e1 hbx hblk hO hb4 hne hg hOJ hb3 x0 x1 x2 x3 x4 x5 x6
    obtain ⟨y0, y1, y2, y3, y4, y5, y6⟩ := (unhide D4).all
    by_cases hbig : 2000 < n2
    · have hbigi : (2000 : Int) < (n2 : Int) := by omega
      go_wp2_with fail
      refine (l6Merge_any fl a2 n2 c2 dt hn2 (n2 + 1) 0 n2 _ (by omega) (by omega) (Nat.le_refl _) ((((unhide H2).below (Nat.le_refl _) (unhide HB3)).alloc _).alloc _)).mono ?_
      rintro e w5 ⟨gm, om, km, cm, L, rfl, hRm, hkm, hOm, hbm⟩
      have HRM := hide hRm
      have HS : Hid (gradeA c sh dt fl = ⟨false, sh, L, 0⟩) := by
        refine grade_go (unhide HR1) ((unhide hl1).trans (unhide HN1)) ?_
        have := ord6_is hOm
        rw [unhide hl2]
        exact this
      have E6 := hide ((((unhide D6).alloc _).alloc _).below (Nat.le_refl _) hbm)
      have EX := hide ((unhide HBX).below (Nat.le_refl _) hbm)
      have EO := hide ((unhide HO).below (Nat.le_refl _) hbm)
      have hs35 := hbm.size
      have HB5 : Hid (Below w.heap.size w w5) := (((unhide HB3).alloc (by omega) _).alloc (by simp; omega) _).trans (hbm.mono (by simp; omega))
      obtain ⟨q0, q1, q2, q3, q4, q5, q6⟩ := (unhide E6).all
      obtain ⟨v0, v1, v2, v3, v4, v5, v6⟩ := (unhide EX).all
      have hpq : w3.heap.size + 1 ≠ w.heap.size + 1 := by omega
      clear hRm hOm hbm y0 y1 y2 y3 y4 y5 y6
      go_wp2_with fail
      have X6 := (unhide E6).other (q := ⟨w3.heap.size + 1, 2, none⟩) (fun e => hpq e.symm) (.slice (some ⟨gm, om, none⟩) km cm)
      have hx := X6.sets (c' := false) (u1 := .slice ash' n1 csh') (u2 := .slice (some ⟨gm, om, none⟩) km cm)
      obtain ⟨r0, r1, r2, _, _, _⟩ := hx.all
      refine bodyPost_ret (v := .tuple #[.agg #[.bool false, .slice ash' n1 csh', .slice (some ⟨gm, om, none⟩) km cm], .int .i64 0]) (by simp [results, Tryz.results75, go_sem, r0, r1, r2]) rfl ?_
      rw [unhide HS]
      refine ⟨ash', n1, csh', some ⟨gm, om, none⟩, km, cm, rfl, ?_, ?_, ((((unhide HB5).setCell (p := ⟨w3.heap.size + 1, 2, none⟩) (by simp <;> omega) _).setCell (by simp <;> omega) _).setCell (by simp <;> omega) _).setCell (by simp <;> omega) _⟩
      · exact ((unhide EO).row.otherB (fun _ hk => (unhide EO).row.notBox (unhide EX) hk) _).sets X6 _ _ _
      · exact ((unhide HRM).otherB (fun _ hk => (unhide HRM).notBox (unhide EX) hk) _).sets X6 _ _ _
    · have hbigi : ¬ (2000 : Int) < (n2 : Int) := by omega
      have hmk := run_make_row' (P := Tryz.prog) 79 4 (.bool false) 1 Tryz.underlying79 info_boolT rfl .i64 .i64 n2 (by omega) (by omega)
      go_wp2_with fail
      obtain ⟨gs, hgs⟩ : ∃ gs, gs = w3.heap.size + 1 + 1 := ⟨_, rfl⟩
      obtain ⟨p, hp'⟩ : ∃ p, p = w3.heap.size + 1 := ⟨_, rfl⟩
      obtain ⟨W, hW⟩ : ∃ W, W = (((w3.alloc (.cells #[] 3)).alloc (.cells #[.bool false, .slice ash n1 csh, .slice (some ⟨w3.heap.size, 0, none⟩) 0 0] 25)).alloc (.cells (madeCells #[.bool false] n2) 4)) := ⟨_, rfl⟩
      have HST0 : Hid (SelS w1 p ash' n1 csh' sh gs (List.replicate n2 false) [] 0 W g0 0) := by
        rw [hW, hgs, hp']
        have hB := (Below.refl ((w3.alloc (.cells #[] 3)).alloc (.cells #[.bool false, .slice ash n1 csh, .slice (some ⟨w3.heap.size, 0, none⟩) 0 0] 25)).heap.size ((w3.alloc (.cells #[] 3)).alloc (.cells #[.bool false, .slice ash n1 csh, .slice (some ⟨w3.heap.size, 0, none⟩) 0 0] 25))).alloc (Nat.le_refl _) (.cells (madeCells #[.bool false] n2) 4)
        exact ⟨(unhide HBX).alloc _, owns_below ((unhide HBK).owns (unhide HGE)) (Nat.le_refl _) hB, (unhide HO).alloc _, unhide HNE, fun x hx => by have := (unhide HO).row.hi hx; simp at this; omega, BBlk.made _ n2 _ (by simp), (unhide HB4).trans (hB.mono (by simp; omega)), hp, by omega⟩
      rw [← hW, ← hgs, ← hp']
      have hpw : w1.heap.size ≤ p := by omega
      have hgsw : w1.heap.size ≤ gs := by omega
      clear hW hgs hp' hmk y0 y1 y2 y3 y4 y5 y6 HBX HBK HO HB4 HNE HGE D4 D6 hz4 hz6 hp hz31 HB3
      go_loopw [8] (fun v wr => ∃ (k : Nat) (O R : List Int) (bs : List Bool) (g cap : Nat), k ≤ n2 ∧ Hid (SelS w1 p ash' n1 csh' sh gs bs O k wr g cap) ∧ Hid (Sel (gradeK fl dt) n2 O R ∧ Done6 R n2 bs)) (fun _ wx => n2 - boxLen wx p)
      case atStart => exact ⟨0, [], upTo n2, List.replicate n2 false, g0, 0, Nat.zero_le _, HST0, ⟨Sel.start, Done6.start⟩⟩
      case round =>
        obtain ⟨k, O, R, bs, g, cap, hk, HS, HSD⟩ := hrel
        clear HST0
        have hz41 := (unhide C4).lt
        obtain ⟨y0, y1, y2, y3, y4, y5, y6⟩ := ((unhide C4).low hz41 (unhide HS).low).all
        obtain ⟨z0, z1, z2, z3, z4, z5, z6⟩ := (unhide HS).box.all
        obtain ⟨wo, hwo⟩ : ∃ x, x = wr := ⟨_, rfl⟩
        subst hwo
        by_cases hlt : k < n2
        case neg =>
          obtain rfl : k = n2 := by omega
          have HSG : Hid (gradeA c sh dt fl = ⟨false, sh, O, 0⟩) := by
            refine grade_go (unhide HR1) ((unhide hl1).trans (unhide HN1)) ?_
            rw [unhide hl2]
            exact (unhide HSD).1.done (unhide HS).len
          have E6 := hide ((unhide C6).low hz61 (unhide HS).low)
          obtain ⟨q0, q1, q2, q3, q4, q5, q6⟩ := (unhide E6).all
          have hpq : p ≠ w.heap.size + 1 := by omega
          have HB5 := hide ((unhide HB1).trans ((unhide HS).low.mono (unhide HB1).size))
          have HLT : ¬ (k : Int) < (k : Int) := by omega
          obtain ⟨aO, cO, eO, hOO⟩ := Own.of_owns (unhide HS).owns (by omega)
          cases eO
          have HOO := hide hOO
          clear hOO hlt
          go_wp2_with fail
          have hx := (unhide E6).sets (c' := false) (u1 := .slice ash' n1 csh') (u2 := .slice (some ⟨g, 0, none⟩) k cap)
          obtain ⟨r0, r1, r2, _, _, _⟩ := hx.all
          refine bodyPost_ret (v := .tuple #[.agg #[.bool false, .slice ash' n1 csh', .slice (some ⟨g, 0, none⟩) k cap], .int .i64 0]) (by simp [results, Tryz.results75, go_sem, r0, r1, r2]) rfl ?_
          rw [unhide HSG]
          refine ⟨ash', n1, csh', some ⟨g, 0, none⟩, k, cap, rfl, ?_, ?_, (((unhide HB5).setCell (by simp <;> omega) _).setCell (by simp <;> omega) _).setCell (by simp <;> omega) _⟩
          · exact (unhide HS).own.row.sets (unhide E6) _ _ _
          · exact (unhide HOO).row.sets (unhide E6) _ _ _
        have hlti : (k : Int) < (n2 : Int) := by omega
        have HBL := hide (unhide HS).boxLen
        go_wp2_with fail
        go_loopw [8, 9] (fun v i wx => ∃ (best : Int) (j : Nat), v = .int .i64 best ∧ i = .int .i64 j ∧ j ≤ n2 ∧ Hid (Best6 (gradeK fl dt) R j best ∧ SelS w1 p ash' n1 csh' sh gs bs O k wx g cap)) (fun _ i _ => n2 - (intOf i).toNat)
        case atStart => exact ⟨-1, 0, rfl, rfl, Nat.zero_le _, Best6.start, unhide HS⟩
        case round =>
          obtain ⟨best, j, rfl, rfl, hj, HX⟩ := hrel
          clear y0 y1 y2 y3 y4 y5 y6 z0 z1 z2 z3 z4 z5 z6 HS
          obtain ⟨y0, y1, y2, y3, y4, y5, y6⟩ := ((unhide C4).low hz41 (unhide HX).2.low).all
          obtain ⟨z0, z1, z2, z3, z4, z5, z6⟩ := (unhide HX).2.box.all
          by_cases hjn : j < n2
          case neg =>
            obtain rfl : j = n2 := by omega
            obtain ⟨b, hb, hbn, hbR, hbf⟩ := (unhide HSD).1.left (unhide HX).1 (by rw [(unhide HX).2.len]; exact hlt)
            subst hb
            have HNX : Hid (Sel (gradeK fl dt) j (O ++ [(b : Int) + 1]) (R.erase ((b : Int) + 1)) ∧ Done6 (R.erase ((b : Int) + 1)) j (bs.set b true)) := ⟨(unhide HSD).1.push hbn hbR hbf, (unhide HSD).2.push (unhide HSD).1.nodup hbn⟩
            have hbl : bs.length = j := (unhide HSD).2.1
            have cD := (unhide HX).2.bb.cell (i := b) (by omega)
            have fD := (unhide HX).2.bb.free b
            have HMK := hide ((unhide HX).2.mark b)
            have hbni : (b : Int) < (j : Int) := by omega
            have hpn := (unhide HX).2.pne
            have hjj : ¬ (j : Int) < (j : Int) := by omega
            clear hbR hbf hbl hjn
            have HCN : Hid (∀ (i : Nat) u, ([.int .i64 ((b : Int) + 1)] : List Value)[i]? = some u → ((wr.setCell ⟨gs, b, none⟩ (.bool true)).alloc (.cells #[.int .i64 ((b : Int) + 1)] 3)).cell? ((⟨wr.heap.size, 0, none⟩ : Addr).add i) = some u) := by
              have := cells_new (wr.setCell ⟨gs, b, none⟩ (.bool true)) ((b : Int) + 1)
              rw [show (wr.setCell ⟨gs, b, none⟩ (.bool true)).heap.size = wr.heap.size by simp] at this
              exact this
            have hlow : w1.heap.size ≤ wr.heap.size := (unhide HX).2.low.size
            go_wp2_with (at_builtin; refine wpList_append_lies _ rfl _ _ 23 rfl w1.heap.size 3 i0 (.int .i64 0) 1 8 Tryz.underlying23 hi hz0 hz1 hz2 rfl (by decide) _ _ _ rfl (owns_below (unhide HMK).owns (Nat.le_refl _) ((Below.refl _ _).alloc (Nat.le_refl _) _)) ⟨wr.heap.size, 0, none⟩ 1 1 [.int .i64 ((b : Int) + 1)] rfl rfl (unhide HCN) (one_one _) (by omega) (by unfold maxLen; omega) (by omega) (by simp; omega) (wr.heap.size + 1) (by simp) ?_; intro g' cap' w7 hown' hgrow hat hlt7; obtain ⟨hb7, hst7⟩ := (unhide HMK).push _ hown' hgrow (hat.imp (fun h => h) (fun h => by rw [h]; simp)); have HST7 := hide hst7; obtain ⟨u0, u1, u2, u3, u4, u5, u6⟩ := hb7.all; clear hgrow hat hown' hlt7 hst7 hb7)
            go_roundw
            case rel => exact ⟨k + 1, _, _, _, g', cap', by omega, HST7, HNX⟩
            case measure => rw [(unhide HST7).boxLen, unhide HBL]; omega
          have hjni : (j : Int) < (n2 : Int) := by omega
          have HSTEP := hide (sel_step (unhide HX).1 (unhide HSD).2 hjn)
          have hbl : bs.length = n2 := (unhide HSD).2.1
          have cD := (unhide HX).2.bb.cell (i := j) (by omega)
          obtain ⟨bd, od, hed, hltd, hcJ⟩ := (unhide H2).get hjn
          cases hed
          have hwlow := (unhide HB1).trans ((unhide HX).2.low.mono (unhide HB1).size)
          have cJ := (hwlow.cell (p := ⟨bd, od + j, none⟩) hltd).trans hcJ
          have HBB : Hid (best = -1 ∨ ∃ b : Nat, best = (b : Int) ∧ b < n2 ∧ wr.cell? ⟨bd, od + b, none⟩ = some (.int .i64 (dt.getD best.toNat 0))) := by
            rcases (unhide HX).1 with ⟨h1, _⟩ | ⟨b, h1, h2, _⟩
            · exact .inl h1
            · refine .inr ⟨b, h1, by omega, ?_⟩
              obtain ⟨_, _, hed', _, hcB⟩ := (unhide H2).get (k := b) (by omega)
              cases hed'
              rw [h1, Int.toNat_natCast]
              exact (hwlow.cell (p := ⟨bd, od + b, none⟩) hltd).trans hcB
          obtain ⟨dn, hdn⟩ : ∃ x, bs.getD j false = x := ⟨_, rfl⟩
          obtain ⟨x, hx⟩ : ∃ x, dt.getD j 0 = x := ⟨_, rfl⟩
          obtain ⟨y, hy⟩ : ∃ y, dt.getD best.toNat 0 = y := ⟨_, rfl⟩
          rw [hdn] at cD HSTEP
          rw [hx] at cJ HSTEP
          rw [hy] at HBB HSTEP
          obtain ⟨r, hr⟩ : ∃ r, selR dn best x y fl = r := ⟨_, rfl⟩
          have HRR := hide hr
          rw [hr] at HSTEP
          clear hr hdn hx hy hcJ hltd hwlow hbl
          go_upto_region 15 with fail
          go_cut [96] (fun u wx => u = .bool r ∧ ∃ q, wx = wr.drewN q)
          case first =>
            cases dn with
            | true =>
              go_quiet (fail)
              go_wp2_with fail
              go_meet
              case rel => exact ⟨by rw [← unhide HRR]; simp [selR], _, rfl⟩
            | false =>
              rcases unhide HBB with rfl | ⟨b, rfl, hbn, cB⟩
              · go_quiet (fail)
                go_wp2_with fail
                go_meet
                case rel => exact ⟨by rw [← unhide HRR]; simp [selR], _, rfl⟩
              · have hbni : (b : Int) < (n2 : Int) := by omega
                have hb0 : ¬ (b : Int) < 0 := by omega
                have hd0 : decide ((b : Int) < 0) = false := by simp
                cases fl with
                | false =>
                  by_cases hxy : x < y
                  · have d1 : decide (x < y) = true := by simp; omega
                    have d2 : decide (y < x) = false := by simp; omega
                    clear hxy
                    go_quiet (fail)
                    go_wp2_with fail
                    go_meet
                    case rel => exact ⟨by rw [← unhide HRR]; simp [selR, d1, d2, hd0], _, rfl⟩
                  · by_cases hyx : y < x
                    · have d1 : decide (x < y) = false := by simp; omega
                      have d2 : decide (y < x) = true := by simp; omega
                      clear hxy hyx
                      go_quiet (fail)
                      go_wp2_with fail
                      go_meet
                      case rel => exact ⟨by rw [← unhide HRR]; simp [selR, d1, d2, hd0], _, rfl⟩
                    · have d1 : decide (x < y) = false := by simp; omega
                      have d2 : decide (y < x) = false := by simp; omega
                      clear hxy hyx
                      go_quiet (fail)
                      go_wp2_with fail
                      go_meet
                      case rel => exact ⟨by rw [← unhide HRR]; simp [selR, d1, d2, hd0], _, rfl⟩
                | true =>
                  by_cases hxy : x < y
                  · have d1 : decide (x < y) = true := by simp; omega
                    have d2 : decide (y < x) = false := by simp; omega
                    clear hxy
                    go_quiet (fail)
                    go_wp2_with fail
                    go_meet
                    case rel => exact ⟨by rw [← unhide HRR]; simp [selR, d1, d2, hd0], _, rfl⟩
                  · by_cases hyx : y < x
                    · have d1 : decide (x < y) = false := by simp; omega
                      have d2 : decide (y < x) = true := by simp; omega
                      clear hxy hyx
                      go_quiet (fail)
                      go_wp2_with fail
                      go_meet
                      case rel => exact ⟨by rw [← unhide HRR]; simp [selR, d1, d2, hd0], _, rfl⟩
                    · have d1 : decide (x < y) = false := by simp; omega
                      have d2 : decide (y < x) = false := by simp; omega
                      clear hxy hyx
                      go_quiet (fail)
                      go_wp2_with fail
                      go_meet
                      case rel => exact ⟨by rw [← unhide HRR]; simp [selR, d1, d2, hd0], _, rfl⟩
          case rest =>
            obtain ⟨rfl, q, rfl⟩ := hcut
            cases r with
            | true =>
              have HN := hide ((unhide HSTEP).1 rfl)
              go_wp2_with fail
              go_roundw
              case rel => exact ⟨(j : Int), j + 1, rfl, by go_num, by omega, unhide HN, (unhide HX).2.drewN _⟩
              case measure => simp [intOf]; omega
            | false =>
              have HN := hide ((unhide HSTEP).2 rfl)
              go_wp2_with fail
              go_roundw
              case rel => exact ⟨best, j + 1, rfl, by go_num, by omega, unhide HN, (unhide HX).2.drewN _⟩
              case measure => simp [intOf]; omega

end Go.Proofs.YtgjpchnkodnieaaGreatDoor
