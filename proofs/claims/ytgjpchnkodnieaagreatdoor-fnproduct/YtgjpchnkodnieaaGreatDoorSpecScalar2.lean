import Derived.Test.YtgjpchnkodnieaaGreatDoorSpecElem
import Derived.Test.YtgjpchnkodnieaaGreatDoorMFit1
import Derived.Test.YtgjpchnkodnieaaGreatDoorMFit0
import Derived.Test.YtgjpchnkodnieaaGreatDoorL3Same
import Derived.Deep.DeepCutAuto
import Derived.Deep.RegionHeld
import Derived.Test.YtgjpchnkodnieaaGreatDoorMFit1
namespace Go.Proofs.YtgjpchnkodnieaaGreatDoor
open Go.RowKit

theorem scalar2_bad1 {op : Int} {c d : Bool} {sh dt sh' dt' : List Int} (h : arrOk c sh dt = false) : scalar2 op c d sh dt sh' dt' = noAns 3 := by unfold scalar2; rw [if_neg (by simp [h])]
theorem scalar2_bad2 {op : Int} {c d : Bool} {sh dt sh' dt' : List Int} (h : arrOk d sh' dt' = false) : scalar2 op c d sh dt sh' dt' = noAns 3 := by unfold scalar2; rw [if_neg (by simp [h])]
theorem scalar2_bad3 {op : Int} {c d : Bool} {sh dt sh' dt' : List Int} (h : ¬ (1 ≤ op ∧ op ≤ 16)) : scalar2 op c d sh dt sh' dt' = noAns 3 := by unfold scalar2; rw [if_neg (by simp [opIn, h])]

/-- What is left of Scalar2 behind its first test. -/
def scalar2Rest (op : Int) (c d wide tall : Bool) (sh dt sh' dt' : List Int) : Ans :=
  if (!wide && !tall) = true ∧ sh.length ≠ sh'.length then noAns 4
  else if (!wide && !tall) = true ∧ sh ≠ sh' then noAns 5
  else if (c || d) = true ∧ opEq op = false then noAns 3
  else gatherAns false (if wide then sh' else sh) (fun i => elemOf op c dt (i % dt.length) d dt' (i % dt'.length)) (countOf (if wide then sh' else sh)).toNat

theorem scalar2_rest {op : Int} {c d : Bool} {sh dt sh' dt' : List Int} (h1 : arrOk c sh dt = true) (h2 : arrOk d sh' dt' = true) (h3 : 1 ≤ op ∧ op ≤ 16) (n1 n2 m1 m2 : Nat) (l1 : sh.length = n1) (l2 : dt.length = n2) (l3 : sh'.length = m1) (l4 : dt'.length = m2) :
    scalar2 op c d sh dt sh' dt' = scalar2Rest op c d (wideB n1 n2 m1 m2) (decide (m2 = 1) && !(wideB n1 n2 m1 m2)) sh dt sh' dt' := by
  subst l1 l2 l3 l4
  unfold scalar2; rw [if_pos ⟨h1, h2, decide_eq_true h3⟩]; rfl

theorem rest_rank {op : Int} {c d : Bool} {sh dt sh' dt' : List Int} (h : sh.length ≠ sh'.length) : scalar2Rest op c d false false sh dt sh' dt' = noAns 4 := by unfold scalar2Rest; rw [if_pos ⟨rfl, h⟩]
theorem rest_len {op : Int} {c d : Bool} {sh dt sh' dt' : List Int} (h : sh.length = sh'.length) (h2 : sh ≠ sh') : scalar2Rest op c d false false sh dt sh' dt' = noAns 5 := by unfold scalar2Rest; rw [if_neg (fun e => e.2 h), if_pos ⟨rfl, h2⟩]

/-- The shape of the answer, where there is one. -/
def Fits (wide tall : Bool) (sh sh' shp : List Int) : Prop := (wide = true ∧ shp = sh') ∨ (wide = false ∧ tall = true ∧ shp = sh) ∨ (wide = false ∧ tall = false ∧ shp = sh ∧ sh = sh')

theorem fits_if {op : Int} {c d wide tall : Bool} {sh dt sh' dt' shp : List Int} (h : Fits wide tall sh sh' shp) : scalar2Rest op c d wide tall sh dt sh' dt' = if (c || d) = true ∧ opEq op = false then noAns 3 else gatherAns false shp (fun i => elemOf op c dt (i % dt.length) d dt' (i % dt'.length)) (countOf shp).toNat := by
  rcases h with ⟨rfl, rfl⟩ | ⟨rfl, rfl, rfl⟩ | ⟨rfl, rfl, rfl, rfl⟩ <;> simp [scalar2Rest]

theorem rest_char {op : Int} {c d wide tall : Bool} {sh dt sh' dt' shp : List Int} (h : Fits wide tall sh sh' shp) (h2 : ((c || d) && !opEq op) = true) : scalar2Rest op c d wide tall sh dt sh' dt' = noAns 3 := by
  rw [fits_if h, if_pos (by simpa using h2)]
theorem rest_go {op : Int} {c d wide tall : Bool} {sh dt sh' dt' shp : List Int} (h : Fits wide tall sh sh' shp) (h2 : ((c || d) && !opEq op) = false) (n2 m2 : Nat) (l2 : dt.length = n2) (l4 : dt'.length = m2) : scalar2Rest op c d wide tall sh dt sh' dt' = gatherAns false shp (fun i => elemOf op c dt (i % n2) d dt' (i % m2)) (countOf shp).toNat := by
  subst l2 l4
  rw [fits_if h, if_neg (fun e => by simp [e.1, e.2] at h2)]

theorem count_of {c : Bool} {sh dt : List Int} (h : arrOk c sh dt = true) : countOf sh = dt.length := by
  unfold arrOk at h; simp only [Bool.and_eq_true, decide_eq_true_eq] at h; exact h.2.1

/-- Where there are elements to be reckoned both arguments have some, and there are not too many. -/
theorem fits_pos {c d wide tall : Bool} {sh dt sh' dt' shp : List Int} (h : Fits wide tall sh sh' shp) (hw : wideB sh.length dt.length sh'.length dt'.length = wide) (ht : (decide (dt'.length = 1) && !wide) = tall) (h1 : arrOk c sh dt = true) (h2 : arrOk d sh' dt' = true) :
    0 ≤ countOf shp ∧ countOf shp ≤ 10000 ∧ (0 < countOf shp → 0 < dt.length ∧ 0 < dt'.length) := by
  have e1 := count_of h1
  have e2 := count_of h2
  have b1 := count_bd sh
  have b2 := count_bd sh'
  rcases h with ⟨rfl, rfl⟩ | ⟨rfl, rfl, rfl⟩ | ⟨rfl, rfl, rfl, rfl⟩
  · simp [wideB] at hw; omega
  · simp at ht; omega
  · omega

set_option maxRecDepth 20000 in
set_option maxHeartbeats 8000000 in
theorem Scalar2_any (op : Int) (c d : Bool) (a1 a2 b1 b2 : Option Addr) (n1 n2 m1 m2 c1 c2 d1 d2 : Nat) (sh dt sh' dt' : List Int) (w : World) (h1 : Row w a1 n1 sh) (h2 : Row w a2 n2 dt) (k1 : Row w b1 m1 sh') (k2 : Row w b2 m2 dt') :
    Calls Tryz.prog 108 #[.int .i64 op, .agg #[.bool c, .slice a1 n1 c1, .slice a2 n2 c2], .agg #[.bool d, .slice b1 m1 d1, .slice b2 m2 d2]] w (GivesRow w (scalar2 op c d sh dt sh' dt')) := by
  have hl1 := hide h1.len
  have hl2 := hide h2.len
  have hl3 := hide k1.len
  have hl4 := hide k2.len
  have hs1 := h1.small
  have hs2 := h2.small
  have hs3 := k1.small
  have hs4 := k2.small
  have H1 := hide h1
  have H2 := hide h2
  have K1 := hide k1
  have K2 := hide k2
  clear h1 h2 k1 k2
  obtain ⟨r1, hr1⟩ : ∃ r, arrOk c sh dt = r := ⟨_, rfl⟩
  obtain ⟨r2, hr2⟩ : ∃ r, arrOk d sh' dt' = r := ⟨_, rfl⟩
  have HR1 := hide hr1
  have HR2 := hide hr2
  clear hr1 hr2
  go_enter Tryz.func108, Tryz.ntmps108
  go_wp2_with fail
  refine (ArrayOk_eq _ _ _ _ _ _ _ sh dt _ ((((unhide H1).alloc _).alloc _).alloc _) ((((unhide H2).alloc _).alloc _).alloc _) _ HR1).mono ?_
  rintro e w1 ⟨rfl, hb1⟩
  obtain ⟨B4, B5, B6, hB1⟩ := boxes3 hb1
  have hz1 := B6.lt
  clear hb1
  obtain ⟨x0, x1, x2, x3, x4, x5, x6⟩ := B4.all
  obtain ⟨y0, y1, y2, y3, y4, y5, y6⟩ := B5.all
  cases r1 with
  | false =>
    have HS := hide (scalar2_bad1 (op := op) (d := d) (sh' := sh') (dt' := dt') (unhide HR1))
    go_wp2_with fail
    refine (l4None_any _).mono ?_
    rintro e w9 ⟨rfl, hb9⟩
    obtain ⟨q0, q1, q2, q3, q4, q5, q6⟩ := (B6.below (Nat.le_refl _) hb9).all
    have hB9 := hide ((hB1).trans (hb9.mono (hB1).size))
    clear hb9 hB1 B4 B5 B6 hz1 x0 x1 x2 x3 x4 x5 x6 y0 y1 y2 y3 y4 y5 y6
    go_wp2
    refine bodyPost_ret (v := .tuple #[.agg #[.bool false, .slice none 0 0, .slice none 0 0], .int .i64 3]) (by simp [results, Tryz.results108, go_sem, q0, q1, q2]) rfl ?_
    rw [unhide HS]
    exact ⟨none, 0, 0, none, 0, 0, rfl, row_nil _ _, row_nil _ _, (((unhide hB9).setCell (by simp <;> omega) _).setCell (by simp <;> omega) _).setCell (by simp <;> omega) _⟩
  | true =>
    go_wp2_with fail
    refine (ArrayOk_eq _ _ _ _ _ _ _ sh' dt' _ ((unhide K1).below (Nat.le_refl _) hB1) ((unhide K2).below (Nat.le_refl _) hB1) _ HR2).mono ?_
    rintro e w2 ⟨rfl, hb2⟩
    have C4 := hide (B4.below (Nat.le_refl _) hb2)
    have C5 := hide (B5.below (Nat.le_refl _) hb2)
    have C6 := hide (B6.below (Nat.le_refl _) hb2)
    have hB2 := hide (hB1.trans (hb2.mono hB1.size))
    clear hb2 hB1 B4 B5 B6 hz1 x0 x1 x2 x3 x4 x5 x6 y0 y1 y2 y3 y4 y5 y6 w1
    cases r2 with
    | false =>
      have HS := hide (scalar2_bad2 (op := op) (c := c) (sh := sh) (dt := dt) (unhide HR2))
      go_wp2_with fail
      refine (l4None_any _).mono ?_
      rintro e w9 ⟨rfl, hb9⟩
      obtain ⟨q0, q1, q2, q3, q4, q5, q6⟩ := ((unhide C6).below (Nat.le_refl _) hb9).all
      have hB9 := hide (((unhide hB2)).trans (hb9.mono ((unhide hB2)).size))
      clear hb9 C4 C5 C6 hB2
      go_wp2
      refine bodyPost_ret (v := .tuple #[.agg #[.bool false, .slice none 0 0, .slice none 0 0], .int .i64 3]) (by simp [results, Tryz.results108, go_sem, q0, q1, q2]) rfl ?_
      rw [unhide HS]
      exact ⟨none, 0, 0, none, 0, 0, rfl, row_nil _ _, row_nil _ _, (((unhide hB9).setCell (by simp <;> omega) _).setCell (by simp <;> omega) _).setCell (by simp <;> omega) _⟩
    | true =>
      by_cases hop1 : op < 1
      · have HS := hide (scalar2_bad3 (op := op) (c := c) (d := d) (sh := sh) (dt := dt) (sh' := sh') (dt' := dt') (by omega))
        go_wp2_with fail
        refine (l4None_any _).mono ?_
        rintro e w9 ⟨rfl, hb9⟩
        obtain ⟨q0, q1, q2, q3, q4, q5, q6⟩ := ((unhide C6).below (Nat.le_refl _) hb9).all
        have hB9 := hide (((unhide hB2)).trans (hb9.mono ((unhide hB2)).size))
        clear hb9 C4 C5 C6 hB2
        go_wp2
        refine bodyPost_ret (v := .tuple #[.agg #[.bool false, .slice none 0 0, .slice none 0 0], .int .i64 3]) (by simp [results, Tryz.results108, go_sem, q0, q1, q2]) rfl ?_
        rw [unhide HS]
        exact ⟨none, 0, 0, none, 0, 0, rfl, row_nil _ _, row_nil _ _, (((unhide hB9).setCell (by simp <;> omega) _).setCell (by simp <;> omega) _).setCell (by simp <;> omega) _⟩
      by_cases hop2 : 16 < op
      · have HS := hide (scalar2_bad3 (op := op) (c := c) (d := d) (sh := sh) (dt := dt) (sh' := sh') (dt' := dt') (by omega))
        go_wp2_with fail
        refine (l4None_any _).mono ?_
        rintro e w9 ⟨rfl, hb9⟩
        obtain ⟨q0, q1, q2, q3, q4, q5, q6⟩ := ((unhide C6).below (Nat.le_refl _) hb9).all
        have hB9 := hide (((unhide hB2)).trans (hb9.mono ((unhide hB2)).size))
        clear hb9 C4 C5 C6 hB2
        go_wp2
        refine bodyPost_ret (v := .tuple #[.agg #[.bool false, .slice none 0 0, .slice none 0 0], .int .i64 3]) (by simp [results, Tryz.results108, go_sem, q0, q1, q2]) rfl ?_
        rw [unhide HS]
        exact ⟨none, 0, 0, none, 0, 0, rfl, row_nil _ _, row_nil _ _, (((unhide hB9).setCell (by simp <;> omega) _).setCell (by simp <;> omega) _).setCell (by simp <;> omega) _⟩
      have HRS := hide (scalar2_rest (unhide HR1) (unhide HR2) (by omega : 1 ≤ op ∧ op ≤ 16) n1 n2 m1 m2 (unhide hl1) (unhide hl2) (unhide hl3) (unhide hl4))
      have HIN : Hid (opIn op = true) := decide_eq_true (by omega)
      obtain ⟨x0, x1, x2, x3, x4, x5, x6⟩ := (unhide C4).all
      obtain ⟨y0, y1, y2, y3, y4, y5, y6⟩ := (unhide C5).all
      obtain ⟨wide, hwide⟩ : ∃ r, wideB n1 n2 m1 m2 = r := ⟨_, rfl⟩
      have HWD := hide hwide
      clear hwide
      go_upto_region 3 with fail
      go_cut [8] (fun b wx => b = .bool wide ∧ w2 = wx)
      case first =>
        by_cases e1 : n2 = 1
        · have f1 : ((n2 : Int) == 1) = true := by simp [e1]
          by_cases e2 : m2 = 1
          · have f2 : ((m2 : Int) != 1) = false := by simp [e2]
            by_cases e3 : n1 < m1
            · have HE : Hid (wide = true) := by show _ = _; rw [← unhide HWD]; simp [wideB, e1, e3]
              clear e1 e2
              go_wp2
              go_meet
              case rel => exact ⟨by rw [unhide HE], rfl⟩
            · have HE : Hid (wide = false) := by show _ = _; rw [← unhide HWD]; simp [wideB, e2]; omega
              clear e1 e2
              go_wp2
              go_meet
              case rel => exact ⟨by rw [unhide HE], rfl⟩
          · have f2 : ((m2 : Int) != 1) = true := by simp; omega
            have HE : Hid (wide = true) := by show _ = _; rw [← unhide HWD]; simp [wideB, e1, e2]
            clear e1 e2
            go_wp2
            go_meet
            case rel => exact ⟨by rw [unhide HE], rfl⟩
        · have f1 : ((n2 : Int) == 1) = false := by simp; omega
          have HE : Hid (wide = false) := by show _ = _; rw [← unhide HWD]; simp [wideB, e1]
          clear e1
          go_wp2
          go_meet
          case rel => exact ⟨by rw [unhide HE], rfl⟩
      case rest =>
        obtain ⟨rfl, rfl⟩ := hcut
        obtain ⟨tall, htall⟩ : ∃ r, (decide (m2 = 1) && !wide) = r := ⟨_, rfl⟩
        have HTL := hide htall
        clear htall
        go_upto_region 4 with fail
        go_cut [9] (fun b wx => b = .bool tall ∧ w2 = wx)
        case first =>
          by_cases e2 : m2 = 1
          · have f2 : ((m2 : Int) == 1) = true := by simp [e2]
            have HE : Hid ((!wide) = tall) := by show _ = _; rw [← unhide HTL]; simp [e2]
            clear e2
            go_wp2
            go_meet
            case rel => exact ⟨by rw [← unhide HE], rfl⟩
          · have f2 : ((m2 : Int) == 1) = false := by simp; omega
            have HE : Hid (false = tall) := by show _ = _; rw [← unhide HTL]; simp [e2]
            clear e2
            go_wp2
            go_meet
            case rel => exact ⟨by rw [← unhide HE], rfl⟩
        case rest =>
          obtain ⟨rfl, rfl⟩ := hcut
          have HRS' : Hid (scalar2 op c d sh dt sh' dt' = scalar2Rest op c d wide tall sh dt sh' dt') := by show _ = _; rw [unhide HRS, unhide HWD, unhide HTL]
          clear HRS
          have hcase : ∃ (ad : Option Addr) (an ac : Nat) (shp : List Int), (wide = true ∧ tall = false ∧ ad = b1 ∧ an = m1 ∧ ac = d1 ∧ shp = sh') ∨ (wide = false ∧ ad = a1 ∧ an = n1 ∧ ac = c1 ∧ shp = sh) := by
            cases wide
            · exact ⟨a1, n1, c1, sh, .inr ⟨rfl, rfl, rfl, rfl, rfl⟩⟩
            · exact ⟨b1, m1, d1, sh', .inl ⟨rfl, by rw [← unhide HTL]; simp, rfl, rfl, rfl, rfl⟩⟩
          obtain ⟨ad, an, ac, shp, hcase⟩ := hcase
          have HSP : Hid (Row w ad an shp) := by
            rcases hcase with ⟨_, _, rfl, rfl, rfl, rfl⟩ | ⟨_, rfl, rfl, rfl, rfl⟩
            · exact K1
            · exact H1
          go_upto_if 62 with fail
          go_cut [10] (fun b wx => w2 = wx ∧ b = .slice ad an ac)
          case first =>
            rcases hcase with ⟨rfl, _, rfl, rfl, rfl, rfl⟩ | ⟨rfl, rfl, rfl, rfl, rfl⟩
            · go_wp2
              go_meet
              case rel => exact ⟨rfl, rfl⟩
            · go_wp2
              go_meet
              case rel => exact ⟨rfl, rfl⟩
          case rest =>
            obtain ⟨rfl, rfl⟩ := hcut
            go_upto_region 8 with fail
            have HC6 := C6
            go_cut [79] (fun b wx => w2 = wx ∧ b = .bool (!wide && !tall && decide (n1 ≠ m1)))
            case first =>
              cases wide <;> cases tall
              · by_cases e1 : n1 = m1
                · have f1 : ((n1 : Int) != (m1 : Int)) = false := by simp [e1]
                  have HD : Hid (decide (n1 ≠ m1) = false) := by show _ = _; simp [e1]
                  clear e1
                  go_wp2
                  go_meet
                  case rel => exact ⟨rfl, by rw [unhide HD]; rfl⟩
                · have f1 : ((n1 : Int) != (m1 : Int)) = true := by simp; omega
                  have HD : Hid (decide (n1 ≠ m1) = true) := by show _ = _; simp [e1]
                  clear e1
                  go_wp2
                  go_meet
                  case rel => exact ⟨rfl, by rw [unhide HD]; rfl⟩
              all_goals
                go_wp2
                go_meet
                case rel => exact ⟨rfl, rfl⟩
            case rest =>
              obtain ⟨rfl, rfl⟩ := hcut
              obtain ⟨rk, hrk⟩ : ∃ r, (!wide && !tall && decide (n1 ≠ m1)) = r := ⟨_, rfl⟩
              rw [hrk]
              have HRK := hide hrk
              clear hrk
              cases rk with
              | true =>
                have HS : Hid (scalar2 op c d sh dt sh' dt' = noAns 4) := by
                  show _ = _
                  rw [unhide HRS']
                  have := unhide HRK
                  simp at this
                  obtain ⟨⟨h1, h2⟩, h3⟩ := this
                  rw [h1, h2]
                  exact rest_rank (by rw [unhide hl1, unhide hl3]; exact h3)
                go_wp2_with fail
                refine (l4None_any _).mono ?_
                rintro e w9 ⟨rfl, hb9⟩
                obtain ⟨q0, q1, q2, q3, q4, q5, q6⟩ := ((unhide C6).below (Nat.le_refl _) hb9).all
                have hB9 := hide (((unhide hB2)).trans (hb9.mono ((unhide hB2)).size))
                clear hb9 C4 C5 C6 HC6 hB2 x0 x1 x2 x3 x4 x5 x6 y0 y1 y2 y3 y4 y5 y6
                go_wp2
                refine bodyPost_ret (v := .tuple #[.agg #[.bool false, .slice none 0 0, .slice none 0 0], .int .i64 4]) (by simp [results, Tryz.results108, go_sem, q0, q1, q2]) rfl ?_
                rw [unhide HS]
                exact ⟨none, 0, 0, none, 0, 0, rfl, row_nil _ _, row_nil _ _, (((unhide hB9).setCell (by simp <;> omega) _).setCell (by simp <;> omega) _).setCell (by simp <;> omega) _⟩
              | false =>
                clear HC6
                go_upto_region 10 with fail
                go_cut [94] (fun b wx => Below w2.heap.size w2 wx ∧ b = .bool (!wide && !tall && decide (sh ≠ sh')))
                case first =>
                  cases wide <;> cases tall
                  · obtain ⟨r4, hr4⟩ : ∃ r, decide (sh = sh') = r := ⟨_, rfl⟩
                    have HR4 := hide hr4
                    have HD : Hid (decide (sh ≠ sh') = !r4) := by show _ = _; rw [← hr4]; simp
                    clear hr4
                    go_wp2_with (go_at_call 179; refine (l3Same_eq _ _ _ _ _ _ sh sh' _ ((unhide H1).below (Nat.le_refl _) (unhide hB2)) ((unhide K1).below (Nat.le_refl _) (unhide hB2)) r4 HR4).mono ?_; rintro e wq ⟨rfl, q, rfl⟩)
                    go_meet
                    case rel => exact ⟨Below.drewN (Below.refl _ _) _, by rw [unhide HD]; rfl⟩
                  all_goals
                    go_wp2
                    go_meet
                    case rel => exact ⟨Below.refl _ _, rfl⟩
                case rest =>
                  obtain ⟨w3, hw3⟩ : ∃ x, x = wc := ⟨_, rfl⟩
                  subst hw3
                  obtain ⟨hb3, rfl⟩ := hcut
                  have D4 := hide ((unhide C4).below (Nat.le_refl _) hb3)
                  have D5 := hide ((unhide C5).below (Nat.le_refl _) hb3)
                  have D6 := hide ((unhide C6).below (Nat.le_refl _) hb3)
                  have hB3 := hide ((unhide hB2).trans (hb3.mono (unhide hB2).size))
                  clear hb3 C4 C5 C6 hB2 x0 x1 x2 x3 x4 x5 x6 y0 y1 y2 y3 y4 y5 y6
                  obtain ⟨ln, hln⟩ : ∃ r, (!wide && !tall && decide (sh ≠ sh')) = r := ⟨_, rfl⟩
                  rw [hln]
                  have HLN := hide hln
                  clear hln
                  cases ln with
                  | true =>
                    have HS : Hid (scalar2 op c d sh dt sh' dt' = noAns 5) := by
                      show _ = _
                      rw [unhide HRS']
                      have := unhide HLN
                      simp at this
                      obtain ⟨⟨h1, h2⟩, h3⟩ := this
                      have h4 := unhide HRK
                      rw [h1, h2] at h4 ⊢
                      simp at h4
                      exact rest_len (by rw [unhide hl1, unhide hl3]; exact h4) h3
                    go_wp2_with fail
                    refine (l4None_any _).mono ?_
                    rintro e w9 ⟨rfl, hb9⟩
                    obtain ⟨q0, q1, q2, q3, q4, q5, q6⟩ := ((unhide D6).below (Nat.le_refl _) hb9).all
                    have hB9 := hide (((unhide hB3)).trans (hb9.mono ((unhide hB3)).size))
                    clear hb9 D4 D5 D6 hB3
                    go_wp2
                    refine bodyPost_ret (v := .tuple #[.agg #[.bool false, .slice none 0 0, .slice none 0 0], .int .i64 5]) (by simp [results, Tryz.results108, go_sem, q0, q1, q2]) rfl ?_
                    rw [unhide HS]
                    exact ⟨none, 0, 0, none, 0, 0, rfl, row_nil _ _, row_nil _ _, (((unhide hB9).setCell (by simp <;> omega) _).setCell (by simp <;> omega) _).setCell (by simp <;> omega) _⟩

                  | false =>
                    have HF : Hid (Fits wide tall sh sh' shp) := by
                      show Fits _ _ _ _ _
                      have h5 := unhide HLN
                      rcases hcase with ⟨h1, _, _, _, _, h6⟩ | ⟨h1, _, _, _, h6⟩
                      · exact .inl ⟨h1, h6⟩
                      · cases tall
                        · rw [h1] at h5; simp at h5; exact .inr (.inr ⟨h1, rfl, h6, h5⟩)
                        · exact .inr (.inl ⟨h1, rfl, h6⟩)
                    clear hcase HLN HRK
                    obtain ⟨x0, x1, x2, x3, x4, x5, x6⟩ := (unhide D4).all
                    obtain ⟨y0, y1, y2, y3, y4, y5, y6⟩ := (unhide D5).all
                    go_upto_region 12 with fail
                    go_cut [106] (fun b wx => w3 = wx ∧ b = .bool ((c || d) && !opEq op))
                    case first =>
                      cases c <;> cases d
                      all_goals
                        go_wp2_with (go_at_call 180; refine (l4Equal_any _ _).mono ?_; rintro e wq ⟨rfl, rfl⟩)
                        go_meet
                        case rel => exact ⟨rfl, rfl⟩
                    case rest =>
                      obtain ⟨rfl, rfl⟩ := hcut
                      obtain ⟨bad, hbad⟩ : ∃ r, ((c || d) && !opEq op) = r := ⟨_, rfl⟩
                      rw [hbad]
                      have HBD := hide hbad
                      clear hbad
                      cases bad with
                      | true =>
                        have HS := hide ((unhide HRS').trans (rest_char (unhide HF) (unhide HBD)))
                        go_wp2_with fail
                        refine (l4None_any _).mono ?_
                        rintro e w9 ⟨rfl, hb9⟩
                        obtain ⟨q0, q1, q2, q3, q4, q5, q6⟩ := ((unhide D6).below (Nat.le_refl _) hb9).all
                        have hB9 := hide (((unhide hB3)).trans (hb9.mono ((unhide hB3)).size))
                        clear hb9 D4 D5 D6 hB3 x0 x1 x2 x3 x4 x5 x6 y0 y1 y2 y3 y4 y5 y6
                        go_wp2
                        refine bodyPost_ret (v := .tuple #[.agg #[.bool false, .slice none 0 0, .slice none 0 0], .int .i64 3]) (by simp [results, Tryz.results108, go_sem, q0, q1, q2]) rfl ?_
                        rw [unhide HS]
                        exact ⟨none, 0, 0, none, 0, 0, rfl, row_nil _ _, row_nil _ _, (((unhide hB9).setCell (by simp <;> omega) _).setCell (by simp <;> omega) _).setCell (by simp <;> omega) _⟩

                      | false =>
                        obtain ⟨f, hf⟩ : ∃ f : Nat → Int × Int, f = fun i => elemOf op c dt (i % n2) d dt' (i % m2) := ⟨_, rfl⟩
                        have hfp := fits_pos (unhide HF) (by rw [unhide hl1, unhide hl2, unhide hl3, unhide hl4]; exact unhide HWD) (by rw [unhide hl4]; exact unhide HTL) (unhide HR1) (unhide HR2)
                        rw [unhide hl2, unhide hl4] at hfp
                        obtain ⟨N, hN⟩ : ∃ N : Nat, countOf shp = (N : Int) := ⟨(countOf shp).toNat, by omega⟩
                        rw [hN] at hfp
                        have HGO : Hid (scalar2 op c d sh dt sh' dt' = gatherAns false shp f N) := by
                          show _ = _
                          rw [unhide HRS', rest_go (unhide HF) (unhide HBD) n2 m2 (unhide hl2) (unhide hl4), hN, hf, Int.toNat_natCast]
                        have HFK : Hid (∀ k, f k = elemOf op c dt (k % n2) d dt' (k % m2)) := by intro k; rw [hf]
                        obtain ⟨_, hNs, hpos⟩ := hfp
                        have HN := hide hN
                        have HPOS := hide hpos
                        have HV1 := hide (arr_bd (unhide HR1))
                        have HV2 := hide (arr_bd (unhide HR2))
                        clear hf hN hpos HRS' HF HBD HWD HTL
                        obtain ⟨i0, hi, hz0, hz1, hz2⟩ := info_parts info_int
                        go_wp2_with fail
                        refine (l3Ints_opt _ _ _ shp _ ((unhide HSP).below (Nat.le_refl _) (unhide hB3))).mono ?_
                        rintro e w4 ⟨ash, csh, rfl, hO, hb4⟩
                        have E4 := hide ((unhide D4).below (Nat.le_refl _) hb4)
                        have E5 := hide ((unhide D5).below (Nat.le_refl _) hb4)
                        have E6 := hide ((unhide D6).below (Nat.le_refl _) hb4)
                        have HB4 := hide ((unhide hB3).trans (hb4.mono (unhide hB3).size))
                        have HO := hide (hO.mono (B' := w.heap.size) (unhide hB3).size)
                        have HOl : Hid (∀ k, At ash an k → k < w4.heap.size) := fun k hk => hO.row.hi hk
                        have hy3 := (unhide D6).lt
                        have HOp : Hid (∀ k, At ash an k → k ≠ w.heap.size + 2) := fun k hk => by have := hO.low hk; omega
                        have hy4 := (unhide E6).lt
                        have hsp := (unhide HSP).len
                        clear hb4 hB3 D4 D5 D6 hO hy3 x0 x1 x2 x3 x4 x5 x6 y0 y1 y2 y3 y4 y5 y6
                        go_wp2_with (go_at_call 48; refine (l3Count_eq _ _ _ shp _ (by exact ((((unhide HSP).below (Nat.le_refl _) (unhide HB4)).alloc _).alloc _)) _ HN).mono ?_; rintro e wq ⟨rfl, rfl⟩)
                        go_loopw [13] (fun i wr => ∃ (k : Nat) (v : Value), k ≤ N ∧ i = .int .i64 k ∧ Box wr (w4.heap.size + 1) false (.slice ash an csh) v ∧ wr.ownsRow w4.heap.size 3 1 v k ((vals f k).map (Value.int .i64)) ∧ Below w4.heap.size w4 wr ∧ firstCode f k = 0) (fun i _ => N - (intOf i).toNat)
                        case atStart =>
                          refine ⟨0, .slice (some ⟨w4.heap.size, 0, none⟩) 0 0, Nat.zero_le _, rfl, ?_, ?_, ((Below.refl _ _).alloc (Nat.le_refl _) _).alloc (by simp) _, rfl⟩
                          · have := Box.new (w4.alloc (.cells #[] 3)) false (.slice ash an csh) (.slice (some ⟨w4.heap.size, 0, none⟩) 0 0)
                            simpa using this
                          · exact (owns_empty w4).alloc _
                        case round =>
                          obtain ⟨k, v, hk, rfl, hbx, hown, hbl, hgood⟩ := hrel
                          have HW := hide ((unhide HB4).trans (hbl.mono (unhide HB4).size))
                          have F4 := hide ((unhide E4).low (by omega) hbl)
                          have F5 := hide ((unhide E5).low (by omega) hbl)
                          have F6 := hide ((unhide E6).low hy4 hbl)
                          have HO' := hide ((unhide HO).low' (unhide HOl) hbl)
                          have hwr : w4.heap.size ≤ wr.heap.size := hbl.size
                          by_cases hlt : k < N
                          · obtain ⟨hn2, hm2⟩ := unhide HPOS (by omega)
                            obtain ⟨x0, x1, x2, x3, x4, x5, x6⟩ := (unhide F4).all
                            obtain ⟨y0, y1, y2, y3, y4, y5, y6⟩ := (unhide F5).all
                            have hq1 : (k : Int).tmod (n2 : Int) = ((k % n2 : Nat) : Int) := by rw [Int.tmod_eq_emod_of_nonneg (by omega)]; rfl
                            have hq2 : (k : Int).tmod (m2 : Int) = ((k % m2 : Nat) : Int) := by rw [Int.tmod_eq_emod_of_nonneg (by omega)]; rfl
                            have g1 : ((n2 : Int) == 0) = false := by simp; omega
                            have g2 : ((m2 : Int) == 0) = false := by simp; omega
                            obtain ⟨r, hr⟩ : ∃ r, f k = r := ⟨_, rfl⟩
                            obtain ⟨r1, r2⟩ := r
                            have HRR := hide hr
                            have HRE : Hid (elemOf op c dt (k % n2) d dt' (k % m2) = (r1, r2)) := by show _ = _; rw [← unhide HFK k]; exact hr
                            clear hr
                            have HBX := hide hbx
                            have HBL := hide hbl
                            have HG := hide hgood
                            have HOW := hide hown
                            clear hbx hbl hgood hown
                            go_upto_region 19 with fail
                            go_cut [14, 15] (fun v14 v15 wx => v14 = .int .i64 r1 ∧ v15 = .int .i64 r2 ∧ Below wr.heap.size wr wx)
                            case first =>
                              have HKEEP : ∀ wx, Below wr.heap.size wr wx → Below wr.heap.size wr wx ∧ wx.cell? ⟨w.heap.size, 0, none⟩ = some (.bool c) ∧ wx.cell? ⟨w.heap.size, 1, none⟩ = some (.slice a1 n1 c1) ∧ wx.cell? ⟨w.heap.size, 2, none⟩ = some (.slice a2 n2 c2) ∧ wx.cell? ⟨w.heap.size + 1, 0, none⟩ = some (.bool d) ∧ wx.cell? ⟨w.heap.size + 1, 1, none⟩ = some (.slice b1 m1 d1) ∧ wx.cell? ⟨w.heap.size + 1, 2, none⟩ = some (.slice b2 m2 d2) := fun wx hwx => ⟨hwx, ((unhide F4).below (Nat.le_refl _) hwx).cells.1, ((unhide F4).below (Nat.le_refl _) hwx).cells.2.1, ((unhide F4).below (Nat.le_refl _) hwx).cells.2.2, ((unhide F5).below (Nat.le_refl _) hwx).cells.1, ((unhide F5).below (Nat.le_refl _) hwx).cells.2.1, ((unhide F5).below (Nat.le_refl _) hwx).cells.2.2⟩
                              go_region_held (fun wx => Below wr.heap.size wr wx ∧ wx.cell? ⟨w.heap.size, 0, none⟩ = some (.bool c) ∧ wx.cell? ⟨w.heap.size, 1, none⟩ = some (.slice a1 n1 c1) ∧ wx.cell? ⟨w.heap.size, 2, none⟩ = some (.slice a2 n2 c2) ∧ wx.cell? ⟨w.heap.size + 1, 0, none⟩ = some (.bool d) ∧ wx.cell? ⟨w.heap.size + 1, 1, none⟩ = some (.slice b1 m1 d1) ∧ wx.cell? ⟨w.heap.size + 1, 2, none⟩ = some (.slice b2 m2 d2)) (first | exact HKEEP _ hK5 | exact HKEEP _ (Below.refl _ _).drew)
                                (first | (go_at_call 181; refine (l4Elements_any op c d _ _ _ _ n2 m2 _ _ dt dt' (k % n2) (k % m2) _ ((unhide H2).below (Nat.le_refl _) (unhide HW).drew) ((unhide K2).below (Nat.le_refl _) (unhide HW).drew) (Nat.mod_lt _ hn2) (Nat.mod_lt _ hm2) (unhide HIN) (unhide HV1) (unhide HV2) r1 r2 HRE).mono ?_; rintro e w5 ⟨rfl, hb5⟩; have hK5 : Below wr.heap.size wr w5 := (Below.refl _ _).drew.trans (hb5.mono (by simp))))
                              all_goals go_wp2_with fail
                              all_goals (go_meet; case rel => exact ⟨rfl, rfl, hK5⟩)
                            case rest =>
                              obtain ⟨w5, hw5⟩ : ∃ x, x = wc := ⟨_, rfl⟩
                              subst hw5
                              obtain ⟨rfl, rfl, hb5⟩ := hcut
                              have G6 := hide ((unhide F6).below (Nat.le_refl _) hb5)
                              have HW5 := hide ((unhide HW).trans (hb5.mono (unhide HW).size))
                              have HBX5 := hide ((unhide HBX).below (Nat.le_refl _) hb5)
                              have HOW5 := hide (owns_below (unhide HOW) (Nat.le_refl _) hb5)
                              have HBL5 := hide ((unhide HBL).trans (hb5.mono hwr))
                              have HO5 := hide ((unhide HO').below (Nat.le_refl _) hb5)
                              have hwr5 : w4.heap.size ≤ w5.heap.size := (unhide HBL5).size
                              clear hb5 HBX HOW HBL HO' F4 F5 F6 HW x0 x1 x2 x3 x4 x5 x6 y0 y1 y2 y3 y4 y5 y6
                              by_cases hcode : r2 = 0
                              · subst hcode
                                obtain ⟨z0, z1, z2, z3, z4, z5, z6⟩ := (unhide HBX5).all
                                have hown := unhide HOW5
                                go_wp2_with (at_builtin; refine wpList_append_own _ rfl _ _ 23 rfl w4.heap.size 3 i0 (.int .i64 0) 1 8 Tryz.underlying23 hi hz0 hz1 hz2 rfl (by decide) _ _ _ rfl (hown.alloc _) ⟨w5.heap.size, 0, none⟩ 1 1 [.int .i64 r1] rfl rfl (cells_new _ _) (one_one _) (by unfold maxLen; omega) (by omega) (by simp; omega) ?_; intro v1 w6 hown' hgrow hnil; clear hnil; obtain ⟨av, cv, rfl⟩ := owns_slice hown'; have HB := hide (below_append _ hown hwr5 hgrow); have HX6 := hide ((unhide HBX5).grown hown _ hgrow); obtain ⟨z0', z1', z2', z3', z4', z5', z6'⟩ := (unhide HX6).all; clear hgrow)
                                have HN' : Hid (w6.ownsRow w4.heap.size 3 1 (.slice av (k + 1) cv) (k + 1) ((vals f (k + 1)).map (Value.int .i64))) := by
                                  show w6.ownsRow _ _ _ _ _ _
                                  rw [vals_snoc, unhide HRR]
                                  exact hown'
                                go_roundw
                                case rel => exact ⟨k + 1, .slice av (k + 1) cv, by omega, by go_num, (unhide HX6).set2 _, owns_box_set (unhide HN') (unhide HX6) _ _, ((unhide HBL5).trans (unhide HB)).setCell (by simp) _, code_step (unhide HG) (by rw [unhide HRR])⟩
                                case measure => simp [intOf]; omega
                              · have HS : Hid (scalar2 op c d sh dt sh' dt' = noAns r2) := by
                                  show _ = _
                                  have := gather_bad (c := false) (sh := shp) (unhide HG) hlt (by rw [unhide HRR]; exact hcode)
                                  rw [unhide HGO, this, unhide HRR]
                                have hcb : (r2 != 0) = true := by simp [hcode]
                                clear hcode
                                go_wp2_with fail
                                refine (l4None_any _).mono ?_
                                rintro e w9 ⟨rfl, hb9⟩
                                obtain ⟨q0, q1, q2, q3, q4, q5, q6⟩ := ((unhide G6).below (Nat.le_refl _) hb9).all
                                have hB9 := hide (((unhide HW5)).trans (hb9.mono ((unhide HW5)).size))
                                clear hb9 G6 HW5 HO5 HBX5 HOW5 HBL5
                                go_wp2
                                refine bodyPost_ret (v := .tuple #[.agg #[.bool false, .slice none 0 0, .slice none 0 0], .int .i64 r2]) (by simp [results, Tryz.results108, go_sem, q0, q1, q2]) rfl ?_
                                rw [unhide HS]
                                exact ⟨none, 0, 0, none, 0, 0, rfl, row_nil _ _, row_nil _ _, (((unhide hB9).setCell (by simp <;> omega) _).setCell (by simp <;> omega) _).setCell (by simp <;> omega) _⟩

                          · have hkn : k = N := by omega
                            subst hkn
                            have HS : Hid (scalar2 op c d sh dt sh' dt' = ⟨false, shp, vals f k, 0⟩) := (unhide HGO).trans (gather_good hgood)
                            obtain ⟨ad', cd, rfl, hD⟩ := Own.of_owns hown (by omega)
                            have HD := hide hD
                            obtain ⟨z0, z1, z2, z3, z4, z5, z6⟩ := hbx.all
                            obtain ⟨q0, q1, q2, q3, q4, q5, q6⟩ := (unhide F6).all
                            clear hown hgood hD hbx hbl F4 F5 F6 HGO HFK
                            go_wp2
                            refine bodyPost_ret (v := .tuple #[.agg #[.bool false, .slice ash an csh, .slice ad' k cd], .int .i64 0]) (by simp [results, Tryz.results108, go_sem, q0, q1, q2]) rfl ?_
                            rw [unhide HS]
                            refine ⟨ash, an, csh, ad', k, cd, rfl, ?_, ?_, (((unhide HW).setCell (by simp <;> omega) _).setCell (by simp <;> omega) _).setCell (by simp <;> omega) _⟩
                            · exact ((((unhide HO').other (unhide HOp) _).other (unhide HOp) _).other (unhide HOp) _).row
                            · have hp : ∀ x, At ad' k x → x ≠ w.heap.size + 2 := fun x hx => by have := (unhide HD).low hx; omega
                              exact ((((unhide HD).other hp _).other hp _).other hp _).row

end Go.Proofs.YtgjpchnkodnieaaGreatDoor
