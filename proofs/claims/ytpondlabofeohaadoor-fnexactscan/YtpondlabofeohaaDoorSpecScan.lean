import Derived.Test.YtpondlabofeohaaDoorSpecFold
import Derived.Test.YtpondlabofeohaaDoorSpecFoldH
import Derived.Test.YtpondlabofeohaaDoorSpecLine
import Derived.Test.YtpondlabofeohaaDoorSpecCopy
import Derived.Test.YtpondlabofeohaaDoorSpecNone
import Derived.Test.YtpondlabofeohaaDoorSpecBoxes
import Derived.Test.YtpondlabofeohaaDoorSpecStage
namespace Go.Proofs.YtpondlabofeohaaDoor
open Go.RowKit

theorem scan_bad1 {op : Int} {c first : Bool} {sh dt : List Int} (h : arrOk c sh dt = false) : scan op c sh dt first = noAns 3 := by unfold scan; rw [if_neg (by simp [h])]
theorem scan_bad2 {op : Int} {c first : Bool} {sh dt : List Int} (h : ¬ (1 ≤ op ∧ op ≤ 16)) : scan op c sh dt first = noAns 3 := by unfold scan; rw [if_neg (by simp [opIn, h])]
theorem scan_scalar {op : Int} {c first : Bool} {sh dt : List Int} (h : arrOk c sh dt = true) (h2 : 1 ≤ op ∧ op ≤ 16) (h0 : sh = []) : scan op c sh dt first = ⟨c, sh, dt, 0⟩ := by unfold scan; rw [if_pos ⟨h, decide_eq_true h2⟩, if_pos h0, h0]
theorem scan_char {op : Int} {c first : Bool} {sh dt : List Int} (h : arrOk c sh dt = true) (h2 : 1 ≤ op ∧ op ≤ 16) (h0 : sh ≠ []) (h3 : (c && decide (1 < axisN sh first)) = true) : scan op c sh dt first = noAns 3 := by unfold scan; rw [if_pos ⟨h, decide_eq_true h2⟩, if_neg h0, if_pos (by simpa using h3)]
theorem scan_go {op : Int} {c first : Bool} {sh dt : List Int} (h : arrOk c sh dt = true) (h2 : 1 ≤ op ∧ op ≤ 16) (h0 : sh ≠ []) (h3 : (c && decide (1 < axisN sh first)) = false) (B n A : Nat) (hB : axisB sh first = B) (hn : axisN sh first = n) (hA : axisA sh first = A) :
    scan op c sh dt first = gatherAns c sh (fun k => foldR op ((lineOf dt (k / A / n) n A (k % A)).take (k / A % n + 1))) (B * n * A) := by
  unfold scan; rw [if_pos ⟨h, decide_eq_true h2⟩, if_neg h0, if_neg (fun e => by simp [e.1, e.2] at h3), hB, hn, hA]; rfl

theorem take_bd {xs : List Int} (h : ∀ k, -1000000000000000 ≤ xs.getD k 0 ∧ xs.getD k 0 ≤ 1000000000000000) (m k : Nat) : -1000000000000000 ≤ (xs.take m).getD k 0 ∧ (xs.take m).getD k 0 ≤ 1000000000000000 := by
  by_cases hk : k < m
  · have e : (xs.take m).getD k 0 = xs.getD k 0 := by simp [List.getD, hk]
    rw [e]; exact h k
  · have e : (xs.take m).getD k 0 = 0 := by
      have hl : (xs.take m).length ≤ k := by rw [List.length_take]; omega
      simp [List.getD, List.getElem?_eq_none hl]
    rw [e]; omega

set_option maxRecDepth 20000 in
set_option maxHeartbeats 8000000 in
theorem Scan_any (op : Int) (c : Bool) (a1 a2 : Addr) (n1 n2 c1 c2 : Nat) (sh dt : List Int) (first : Bool) (w : World) (h1 : Row w (some a1) n1 sh) (h2 : Row w (some a2) n2 dt) :
    Calls Tryd.prog 19 #[.int .i64 op, .agg #[.bool c, .slice (some a1) n1 c1, .slice (some a2) n2 c2], .bool first] w (GivesRow w (scan op c sh dt first)) := by
  have hl1 := hide h1.len
  have hl2 := hide h2.len
  have hs1 := h1.small
  have hs2 := h2.small
  have H1 := hide h1
  have H2 := hide h2
  clear h1 h2
  obtain ⟨r1, hr1⟩ : ∃ r, arrOk c sh dt = r := ⟨_, rfl⟩
  have HR1 := hide hr1
  clear hr1
  go_enter Tryd.func19, Tryd.ntmps19
  go_wp2_with fail
  refine (ArrayOk_eq _ _ _ _ _ _ _ sh dt _ (((unhide H1).alloc _).alloc _) (((unhide H2).alloc _).alloc _) _ HR1).mono ?_
  rintro e w1 ⟨rfl, hb1⟩
  obtain ⟨B4, B6, hB1⟩ := boxes2 hb1
  have C4 := hide B4
  have C6 := hide B6
  have HB1 := hide hB1
  clear hb1 B4 B6 hB1
  cases r1 with
  | false =>
    have HS := hide (scan_bad1 (op := op) (first := first) (unhide HR1))
    go_wp2_with fail
    refine (l4None_any _).mono ?_
    rintro e w9 ⟨rfl, hb9⟩
    obtain ⟨q0, q1, q2, q3, q4, q5, q6⟩ := ((unhide C6).below (Nat.le_refl _) hb9).all
    have hB9 := hide (((unhide HB1)).trans (hb9.mono ((unhide HB1)).size))
    clear hb9 C4 C6 HB1
    go_wp2
    refine bodyPost_ret (v := .tuple #[.agg #[.bool false, .slice none 0 0, .slice none 0 0], .int .i64 3]) (by simp [results, Tryd.results19, go_sem, q0, q1, q2]) rfl ?_
    rw [unhide HS]
    exact ⟨none, 0, 0, none, 0, 0, rfl, row_nil _ _, row_nil _ _, (((unhide hB9).setCell (by simp <;> omega) _).setCell (by simp <;> omega) _).setCell (by simp <;> omega) _⟩
  | true =>
    by_cases hop1 : op < 1
    · have HS := hide (scan_bad2 (op := op) (c := c) (first := first) (sh := sh) (dt := dt) (by omega))
      go_wp2_with fail
      refine (l4None_any _).mono ?_
      rintro e w9 ⟨rfl, hb9⟩
      obtain ⟨q0, q1, q2, q3, q4, q5, q6⟩ := ((unhide C6).below (Nat.le_refl _) hb9).all
      have hB9 := hide (((unhide HB1)).trans (hb9.mono ((unhide HB1)).size))
      clear hb9 C4 C6 HB1
      go_wp2
      refine bodyPost_ret (v := .tuple #[.agg #[.bool false, .slice none 0 0, .slice none 0 0], .int .i64 3]) (by simp [results, Tryd.results19, go_sem, q0, q1, q2]) rfl ?_
      rw [unhide HS]
      exact ⟨none, 0, 0, none, 0, 0, rfl, row_nil _ _, row_nil _ _, (((unhide hB9).setCell (by simp <;> omega) _).setCell (by simp <;> omega) _).setCell (by simp <;> omega) _⟩
    by_cases hop2 : 16 < op
    · have HS := hide (scan_bad2 (op := op) (c := c) (first := first) (sh := sh) (dt := dt) (by omega))
      go_wp2_with fail
      refine (l4None_any _).mono ?_
      rintro e w9 ⟨rfl, hb9⟩
      obtain ⟨q0, q1, q2, q3, q4, q5, q6⟩ := ((unhide C6).below (Nat.le_refl _) hb9).all
      have hB9 := hide (((unhide HB1)).trans (hb9.mono ((unhide HB1)).size))
      clear hb9 C4 C6 HB1
      go_wp2
      refine bodyPost_ret (v := .tuple #[.agg #[.bool false, .slice none 0 0, .slice none 0 0], .int .i64 3]) (by simp [results, Tryd.results19, go_sem, q0, q1, q2]) rfl ?_
      rw [unhide HS]
      exact ⟨none, 0, 0, none, 0, 0, rfl, row_nil _ _, row_nil _ _, (((unhide hB9).setCell (by simp <;> omega) _).setCell (by simp <;> omega) _).setCell (by simp <;> omega) _⟩
    have HOP : Hid (1 ≤ op ∧ op ≤ 16) := (by omega : 1 ≤ op ∧ op ≤ 16)
    have HIN : Hid (opIn op = true) := decide_eq_true (unhide HOP)
    obtain ⟨x0, x1, x2, x3, x4, x5, x6⟩ := (unhide C4).all
    by_cases hn0 : n1 = 0
    · have g0 : ((n1 : Int) == 0) = true := by simp [hn0]
      have HS := hide (scan_scalar (first := first) (unhide HR1) (unhide HOP) (List.length_eq_zero_iff.mp ((unhide hl1).trans hn0)))
      clear hn0
      go_wp2_with fail
      refine (l3Copy_any _ _ _ _ _ _ _ sh dt _ ((unhide H1).below (Nat.le_refl _) (unhide HB1)) ((unhide H2).below (Nat.le_refl _) (unhide HB1))).mono ?_
      rintro e w2 ⟨b1, d1, b2, d2, rfl, hE1, hE2, hb2⟩
      have D6 := hide ((unhide C6).below (Nat.le_refl _) hb2)
      have HB2 := hide ((unhide HB1).trans (hb2.mono (unhide HB1).size))
      obtain ⟨q0, q1, q2, q3, q4, q5, q6⟩ := (unhide D6).all
      have HE1 := hide (hE1.sets (unhide D6) (.bool c) (.slice b1 n1 d1) (.slice b2 n2 d2))
      have HE2 := hide (hE2.sets (unhide D6) (.bool c) (.slice b1 n1 d1) (.slice b2 n2 d2))
      clear hb2 hE1 hE2 C4 C6 HB1 x0 x1 x2 x3 x4 x5 x6
      go_wp2
      refine bodyPost_ret (v := .tuple #[.agg #[.bool c, .slice b1 n1 d1, .slice b2 n2 d2], .int .i64 0]) (by simp [results, Tryd.results19, go_sem, q0, q1, q2]) rfl ?_
      rw [unhide HS]
      exact ⟨b1, n1, d1, b2, n2, d2, rfl, unhide HE1, unhide HE2, (((unhide HB2).setCell (by simp <;> omega) _).setCell (by simp <;> omega) _).setCell (by simp <;> omega) _⟩
    · have g0 : ((n1 : Int) == 0) = false := by simp; omega
      have HNE : Hid (sh ≠ []) := fun e => hn0 (by rw [← unhide hl1, e]; rfl)
      obtain ⟨ba, oa, rfl⟩ : ∃ b o, a1 = ⟨b, o, none⟩ := by
        obtain ⟨b, o, e, _⟩ := (unhide H1).get (by omega : 0 < n1)
        exact ⟨b, o, by cases e; rfl⟩
      obtain ⟨hSI, hPA, _⟩ := shapeIn_of (unhide HR1)
      have hbB := (hSI.take (axisAt sh first)).bd
      have hbN := hSI.cell (axisAt sh first)
      have hbA := (hSI.drop (axisAt sh first + 1)).bd
      obtain ⟨B, hB⟩ : ∃ B : Nat, axisB sh first = (B : Int) := ⟨(axisB sh first).toNat, by have : 0 ≤ axisB sh first := hbB.1; omega⟩
      obtain ⟨n, hn⟩ : ∃ n : Nat, axisN sh first = (n : Int) := ⟨(axisN sh first).toNat, by have : 0 ≤ axisN sh first := hbN.1; omega⟩
      obtain ⟨A, hA⟩ : ∃ A : Nat, axisA sh first = (A : Int) := ⟨(axisA sh first).toNat, by have : 0 ≤ axisA sh first := hbA.1; omega⟩
      have hBs : B ≤ 10000 := by have : axisB sh first ≤ 10000 := hbB.2; omega
      have hns : n ≤ 10000 := by have : axisN sh first ≤ 10000 := hbN.2; omega
      have hAs : A ≤ 10000 := by have : axisA sh first ≤ 10000 := hbA.2; omega
      have hall : B * n * A = n2 := by
        have e := axis_all sh first (unhide HNE)
        rw [hB, hn, hA, hPA, unhide hl2] at e
        exact_mod_cast e
      have hn2s : n2 ≤ 10000 := by have := hSI.bd.2; rw [hPA, unhide hl2] at this; omega
      have HSI := hide hSI
      have HAX : Hid (axisB sh first = B ∧ axisN sh first = n ∧ axisA sh first = A) := ⟨hB, hn, hA⟩
      have HALL := hide hall
      clear hSI hPA hbB hbN hbA hB hn hA hall
      go_wp2_with fail
      refine (l4Axis_any _ _ _ sh first _ ((unhide H1).below (Nat.le_refl _) (unhide HB1)) (unhide HSI) (by omega)).mono ?_
      rw [(unhide HAX).1, (unhide HAX).2.1, (unhide HAX).2.2]
      rintro e w2 ⟨rfl, hb2⟩
      have D4 := hide ((unhide C4).below (Nat.le_refl _) hb2)
      have D6 := hide ((unhide C6).below (Nat.le_refl _) hb2)
      have HB2 := hide ((unhide HB1).trans (hb2.mono (unhide HB1).size))
      clear hb2 C4 C6 HB1 x0 x1 x2 x3 x4 x5 x6 w1
      obtain ⟨x0, x1, x2, x3, x4, x5, x6⟩ := (unhide D4).all
      go_upto_region 6 with fail
      go_cut [48] (fun b wx => w2 = wx ∧ b = .bool (c && decide (1 < axisN sh first)))
      case first =>
        cases c
        · go_wp2
          go_meet
          case rel => exact ⟨rfl, rfl⟩
        · go_wp2
          go_meet
          case rel => exact ⟨rfl, by rw [(unhide HAX).2.1]; rfl⟩
      case rest =>
        obtain ⟨rfl, rfl⟩ := hcut
        obtain ⟨bad, hbad⟩ : ∃ r, (c && decide (1 < axisN sh first)) = r := ⟨_, rfl⟩
        rw [hbad]
        have HBD := hide hbad
        clear hbad
        cases bad with
        | true =>
          have HS := hide (scan_char (unhide HR1) (unhide HOP) (unhide HNE) (unhide HBD))
          go_wp2_with fail
          refine (l4None_any _).mono ?_
          rintro e w9 ⟨rfl, hb9⟩
          obtain ⟨q0, q1, q2, q3, q4, q5, q6⟩ := ((unhide D6).below (Nat.le_refl _) hb9).all
          have hB9 := hide (((unhide HB2)).trans (hb9.mono ((unhide HB2)).size))
          clear hb9 D4 D6 HB2 x0 x1 x2 x3 x4 x5 x6
          go_wp2
          refine bodyPost_ret (v := .tuple #[.agg #[.bool false, .slice none 0 0, .slice none 0 0], .int .i64 3]) (by simp [results, Tryd.results19, go_sem, q0, q1, q2]) rfl ?_
          rw [unhide HS]
          exact ⟨none, 0, 0, none, 0, 0, rfl, row_nil _ _, row_nil _ _, (((unhide hB9).setCell (by simp <;> omega) _).setCell (by simp <;> omega) _).setCell (by simp <;> omega) _⟩
        | false =>
          obtain ⟨f, hf⟩ : ∃ f : Nat → Int × Int, f = fun k => foldR op ((lineOf dt (k / A / n) n A (k % A)).take (k / A % n + 1)) := ⟨_, rfl⟩
          have HGO : Hid (scan op c sh dt first = gatherAns c sh f (B * n * A)) := by
            show _ = _
            rw [scan_go (unhide HR1) (unhide HOP) (unhide HNE) (unhide HBD) B n A (unhide HAX).1 (unhide HAX).2.1 (unhide HAX).2.2, hf]
          have HFK : Hid (∀ P I Q, I < n → Q < A → f ((P * n + I) * A + Q) = foldR op ((lineOf dt P n A Q).take (I + 1))) := by
            intro P I Q hI hQ
            rw [hf]
            have e1 : ((P * n + I) * A + Q) / A = P * n + I := by rw [Nat.mul_comm, Nat.mul_add_div (by omega), Nat.div_eq_of_lt hQ, Nat.add_zero]
            have e2 : ((P * n + I) * A + Q) % A = Q := by rw [Nat.mul_comm, Nat.mul_add_mod, Nat.mod_eq_of_lt hQ]
            have e3 : (P * n + I) / n = P := by rw [Nat.mul_comm, Nat.mul_add_div (by omega), Nat.div_eq_of_lt hI, Nat.add_zero]
            have e4 : (P * n + I) % n = I := by rw [Nat.mul_comm, Nat.mul_add_mod, Nat.mod_eq_of_lt hI]
            simp only [e1, e2, e3, e4]
          have HV1 := hide (arr_bd (unhide HR1))
          clear hf HBD HAX
          have hz6 := (unhide D6).lt
          go_upto_region 8 with fail
          go_cut [11] (fun r wx => Laid w2 c n1 sh r wx)
          case first =>
            have HKEEP : ∀ wx, Below w2.heap.size w2 wx → Below w2.heap.size w2 wx ∧ wx.cell? ⟨w.heap.size, 0, none⟩ = some (.bool c) ∧ wx.cell? ⟨w.heap.size, 1, none⟩ = some (.slice (some ⟨ba, oa, none⟩) n1 c1) := fun wx hwx => ⟨hwx, ((unhide D4).below (Nat.le_refl _) hwx).cells.1, ((unhide D4).below (Nat.le_refl _) hwx).cells.2.1⟩
            go_region_held (fun wx => Below w2.heap.size w2 wx ∧ wx.cell? ⟨w.heap.size, 0, none⟩ = some (.bool c) ∧ wx.cell? ⟨w.heap.size, 1, none⟩ = some (.slice (some ⟨ba, oa, none⟩) n1 c1)) (first | (refine HKEEP _ ?_; first | exact hKA | exact (Below.refl _ _).drew | (repeat (first | exact hKA | exact Below.refl _ _ | refine Below.drew ?_ | refine Below.alloc ?_ (by first | omega | (simp <;> omega)) _ | refine Below.setCell ?_ (by first | omega | (simp <;> omega)) _))))
              (first
              | (go_at_call 26; go_loud (refine (l3Ints_any _ _ _ sh _ ((unhide H1).below (Nat.le_refl _) (by repeat (first | exact unhide HB2 | refine Below.drew ?_ | refine Below.alloc ?_ (by have := (unhide HB2).size; simp <;> omega) _)))).mono ?_); rintro e wA ⟨ash, csh, rfl, hOA, hbA⟩; go_loud (have hKA : Below w2.heap.size w2 wA := (by refine Below.trans ?_ (hbA.mono (by first | omega | (simp <;> omega))); repeat (first | exact Below.refl _ _ | refine Below.drew ?_ | refine Below.alloc ?_ (by first | omega | (simp <;> omega)) _))); have hsA := hKA.size; (first | (have hP5 := (Box.new _ _ _ _).drew.below (Nat.le_refl _) hbA; obtain ⟨t0, t1, t2, t3, t4, t5, t6⟩ := hP5.free'; (try simp at t0 t1 t2 t3 t4 t5 t6)) | (have hP5 := ((Box.new _ _ _ _).alloc _).drew.below (Nat.le_refl _) hbA; obtain ⟨t0, t1, t2, t3, t4, t5, t6⟩ := hP5.free'; (try simp at t0 t1 t2 t3 t4 t5 t6)) | skip); (first | have hQ5 := (Blk.new _).drew.below (Nat.le_refl _) hbA | have hQ5 := ((Blk.new _).alloc _).drew.below (Nat.le_refl _) hbA | skip)))
            all_goals go_wp2_with fail
            all_goals have HOW : Own wA w2.heap.size ash n1 sh := hOA.mono (by first | exact Nat.le_refl _ | (simp <;> omega))
            all_goals (go_meet; case rel => first
              | with_reducible exact laid_cbz HOW hKA
              | with_reducible exact laid_czb HOW hKA
              | with_reducible exact laid_bcz HOW hKA hQ5 (Nat.le_refl _) (fun x hx => by have := hOA.low hx; simp at this; omega)
              | with_reducible exact laid_zc HOW hKA (by simpa using hP5) (by first | exact Nat.le_refl _ | omega) (by simpa using hQ5) (by first | exact Nat.le_refl _ | omega) (fun x hx => by have := hOA.low hx; simp at this; omega)
              | with_reducible exact laid_zcb HOW hKA (by simpa using hP5) (by first | exact Nat.le_refl _ | omega))
          case rest =>
            obtain ⟨w3, hw3⟩ : ∃ x, x = wc := ⟨_, rfl⟩
            subst hw3
            obtain ⟨p, g0, ash, csh, rfl, hbx, hblk, hO, hb3, hp, hg, hne⟩ := hcut
            have hst0 := hide (Stage.start f hbx hblk hO hb3 hp hg hne)
            have HW3 := hide ((unhide HB2).trans (hb3.mono (unhide HB2).size))
            have hB2s := (unhide HB2).size
            have hz4 := (unhide D4).lt
            clear hbx hblk hO hb3 hg hne x0 x1 x2 x3 x4 x5 x6
            obtain ⟨i0, hi, hz0, hz1, hz2⟩ := info_parts info_int
            go_wp2_with fail
            go_loopw [12] (fun i wr => ∃ P g cap, P ≤ B ∧ i = .int .i64 (P : Nat) ∧ Hid (Stage w2 p c ash n1 csh sh f (P * n * A) wr g cap)) (fun i _ => B - (intOf i).toNat)
            case atStart =>
              refine ⟨0, g0, 0, Nat.zero_le _, rfl, ?_⟩
              rw [Nat.zero_mul, Nat.zero_mul]
              exact hst0
            case round =>
              obtain ⟨P, g, cap, hP, rfl, hst⟩ := hrel
              clear hst0
              by_cases hlt : P < B
              · go_wp2_with fail
                go_loopw [13] (fun i wx => ∃ I g cap, I ≤ n ∧ i = .int .i64 (I : Nat) ∧ Hid (Stage w2 p c ash n1 csh sh f ((P * n + I) * A) wx g cap)) (fun i _ => n - (intOf i).toNat)
                case atStart => exact ⟨0, g, cap, Nat.zero_le _, rfl, by rw [Nat.add_zero]; exact hst⟩
                case round =>
                  clear hst
                  obtain ⟨I, g, cap, hI, rfl, hst⟩ := hrel
                  by_cases hilt : I < n
                  · go_wp2_with fail
                    go_loopw [14] (fun i wx => ∃ Q g cap, Q ≤ A ∧ i = .int .i64 (Q : Nat) ∧ Hid (Stage w2 p c ash n1 csh sh f ((P * n + I) * A + Q) wx g cap)) (fun i _ => A - (intOf i).toNat)
                    case atStart => exact ⟨0, g, cap, Nat.zero_le _, rfl, hst⟩
                    case round =>
                      clear hst
                      obtain ⟨Q, g, cap, hQ, rfl, hst⟩ := hrel
                      by_cases hqlt : Q < A
                      · obtain ⟨wy, hwy⟩ : ∃ x, x = wr := ⟨_, rfl⟩
                        subst hwy
                        have HWy := hide ((unhide HB2).trans ((unhide hst).low.mono hB2s))
                        obtain ⟨x0, x1, x2, x3, x4, x5, x6⟩ := ((unhide D4).low hz4 (unhide hst).low).all
                        have hfk0 := unhide HFK P I Q hilt hqlt
                        obtain ⟨r, hr⟩ : ∃ r, foldR op ((lineOf dt P n A Q).take (I + 1)) = r := ⟨_, rfl⟩
                        obtain ⟨r1, r2⟩ := r
                        rw [hr] at hfk0
                        have HFQ := hide hfk0
                        have HRR := hide hr
                        clear hr hfk0
                        go_wp2_with fail
                        refine (l4Line_any c _ _ n2 _ P n A Q dt _ ((unhide H2).below (Nat.le_refl _) (unhide HWy)) (fun i hi => line_in (unhide HALL) hlt hqlt hi) (by omega) hns hAs (by omega) hn2s).mono ?_
                        rintro e w5 ⟨al, cl, rfl, hOL, hb5, hcl⟩
                        have hst5 := hide ((unhide hst).below hb5)
                        have HOL := hide hOL
                        obtain ⟨bl, ol, rfl⟩ : ∃ b o, al = some ⟨b, o, none⟩ := by
                          rcases hOL.at_ with h0 | ⟨b, o, e, _⟩
                          · omega
                          · exact ⟨b, o, e⟩
                        clear hb5 hst HWy hOL x0 x1 x2 x3 x4 x5 x6
                        go_wp2_with fail
                        refine (l4Fold_any op _ (I + 1) _ ((lineOf dt P n A Q).take (I + 1)) _ (row_head (unhide HOL).row (by omega)) (unhide HIN) (take_bd (line_bd (unhide HV1) P n A Q) _)).mono ?_
                        rw [unhide HRR]
                        rintro e w6 ⟨rfl, hb6⟩
                        have hst6 := (unhide hst5).below hb6
                        clear hb6 hst5 HOL
                        have G6 := hide ((unhide D6).low hz6 hst6.low)
                        have HW6 := hide ((unhide HB2).trans (hst6.low.mono hB2s))
                        by_cases hcode : r2 = 0
                        · subst hcode
                          have hfk := unhide HFQ
                          obtain ⟨z0, z1, z2, z3, z4, z5, z6⟩ := hst6.box.all
                          have hown := hst6.owns
                          have hlow := hst6.low.size
                          have hkb : (P * n + I) * A + Q < n2 := line_in (unhide HALL) hlt hqlt hilt
                          go_wp2_with (at_builtin; refine wpList_append_lies _ rfl _ _ 22 rfl w2.heap.size 3 i0 (.int .i64 0) 1 8 Tryd.underlying22 hi hz0 hz1 hz2 rfl (by decide) _ _ _ rfl (hown.alloc _) ⟨w6.heap.size, 0, none⟩ 1 1 [.int .i64 r1] rfl rfl (cells_new _ _) (one_one _) (by omega) (by unfold maxLen; omega) (by omega) (by have := hlow; simp; omega) (w6.heap.size + 1) (by simp) ?_; intro g' cap' w7 hown' hgrow hat hlt7; obtain ⟨hb7, hst7⟩ := hst6.push _ hfk hown' hgrow hat; obtain ⟨z0', z1', z2', z3', z4', z5', z6'⟩ := hb7.all; clear hgrow hat hown')
                          go_roundw
                          case rel => exact ⟨Q + 1, g', cap', by omega, by go_num, hst7⟩
                          case measure => simp [intOf]; omega
                        · have HS : Hid (scan op c sh dt first = noAns r2) := by
                            show _ = _
                            have hkk : (P * n + I) * A + Q < B * n * A := by rw [unhide HALL]; exact line_in (unhide HALL) hlt hqlt hilt
                            have := gather_bad (c := c) (sh := sh) hst6.code hkk (by rw [unhide HFQ]; exact hcode)
                            rw [unhide HGO, this, unhide HFQ]
                          have hcb : (r2 != 0) = true := by simp [hcode]
                          clear hcode hst6
                          go_wp2_with fail
                          refine (l4None_any _).mono ?_
                          rintro e w9 ⟨rfl, hb9⟩
                          obtain ⟨q0, q1, q2, q3, q4, q5, q6⟩ := ((unhide G6).below (Nat.le_refl _) hb9).all
                          have hB9 := hide (((unhide HW6)).trans (hb9.mono ((unhide HW6)).size))
                          clear hb9 G6 HW6
                          go_wp2
                          refine bodyPost_ret (v := .tuple #[.agg #[.bool false, .slice none 0 0, .slice none 0 0], .int .i64 r2]) (by simp [results, Tryd.results19, go_sem, q0, q1, q2]) rfl ?_
                          rw [unhide HS]
                          exact ⟨none, 0, 0, none, 0, 0, rfl, row_nil _ _, row_nil _ _, (((unhide hB9).setCell (by simp <;> omega) _).setCell (by simp <;> omega) _).setCell (by simp <;> omega) _⟩
                      · have hQA : Q = A := by omega
                        subst hQA
                        go_wp2_with fail
                        go_roundw
                        case rel => exact ⟨I + 1, g, cap, by omega, by go_num, by rw [← Nat.add_assoc, Nat.add_mul, Nat.one_mul]; exact hst⟩
                        case measure => simp [intOf]; omega
                  · have hIn : I = n := by omega
                    subst hIn
                    go_wp2_with fail
                    go_roundw
                    case rel => exact ⟨P + 1, g, cap, by omega, by go_num, by rw [Nat.add_mul P 1, Nat.one_mul]; exact hst⟩
                    case measure => simp [intOf]; omega
              · have hPB : P = B := by omega
                subst hPB
                have HS : Hid (scan op c sh dt first = ⟨c, sh, vals f (P * n * A), 0⟩) := (unhide HGO).trans (gather_good (unhide hst).code)
                have hkb : P * n * A ≤ 10000 := by rw [unhide HALL]; exact hn2s
                obtain ⟨ad', cd, hv, hD⟩ := Own.of_owns (unhide hst).owns (by omega)
                cases hv
                obtain ⟨z0, z1, z2, z3, z4, z5, z6⟩ := (unhide hst).box.all
                have G6 := hide ((unhide D6).low hz6 (unhide hst).low)
                obtain ⟨q0, q1, q2, q3, q4, q5, q6⟩ := (unhide G6).all
                have HW6 := hide ((unhide HB2).trans ((unhide hst).low.mono hB2s))
                have HO6 := hide (unhide hst).own
                have HD := hide hD
                clear hst hD HGO HFK
                go_wp2
                refine bodyPost_ret (v := .tuple #[.agg #[.bool c, .slice ash n1 csh, .slice (some ⟨g, 0, none⟩) (P * n * A) cap], .int .i64 0]) (by simp [results, Tryd.results19, go_sem, q0, q1, q2]) rfl ?_
                rw [unhide HS]
                refine ⟨ash, n1, csh, some ⟨g, 0, none⟩, P * n * A, cap, rfl, ?_, ?_, (((unhide HW6).setCell (by simp <;> omega) _).setCell (by simp <;> omega) _).setCell (by simp <;> omega) _⟩
                · exact (unhide HO6).row.sets (unhide G6) _ _ _
                · exact (unhide HD).row.sets (unhide G6) _ _ _


end Go.Proofs.YtpondlabofeohaaDoor
